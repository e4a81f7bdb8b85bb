/-
  THE WALK of TokenJoins: Join of any tokens.
-/
import Derived.Test.YtphgbfgccagcbaaGreatDoorGA11
namespace Go.Proofs.YtphgbfgccagcbaaGreatDoor
open Go.RowKit

theorem infoPT : (Tryz.prog.info? 36).map (fun i => (i.zero, i.size, i.bytes)) = some (some (.agg #[.int .i64 0, .string ⟨#[]⟩, .int .i64 0]), 3, 32) := by kernel_rfl
theorem infoS : (Tryz.prog.info? 9).map (fun i => (i.zero, i.size, i.bytes)) = some (some (.string ⟨#[]⟩), 1, 16) := by kernel_rfl
/-- a text that is cut -/
def cutS (s : ByteArray) : ByteArray := if s.size ≤ 100 then s else s.extract 0 100
theorem cutS_le (s : ByteArray) : (cutS s).size ≤ 100 := by
  unfold cutS
  split
  · assumption
  · rw [ByteArray.size_extract]; omega
def cutTk (t : Tk) : Tk := ⟨t.k, cutS t.s, t.a⟩
def ctk (k : Nat) (l : List Tk) : List Tk := (l.take k).map cutTk
theorem ctk_succ (l : List Tk) (k : Nat) (h : k < l.length) : ctk (k + 1) l = ctk k l ++ [cutTk l[k]] := by
  unfold ctk
  rw [List.take_succ_eq_append_getElem h, List.map_append]; rfl
theorem ctk_len (l : List Tk) (k : Nat) (h : k ≤ l.length) : (ctk k l).length = k := by
  unfold ctk
  rw [List.length_map, List.length_take]; omega
theorem ctk_sz (l : List Tk) (k : Nat) : ∀ x ∈ ctk k l, x.s.size ≤ 20000 := fun x hx => by
  obtain ⟨y, _, rfl⟩ := List.mem_map.1 hx
  have := cutS_le y.s
  show (cutS y.s).size ≤ 20000
  omega
/-- the strings of tokens, as cells -/
def scells (l : List ByteArray) : List Value := l.map Value.string
theorem str_reads {w : World} {base : Nat} {e : TypeId} {v : Value} {l : List ByteArray} (h : w.ownsRow base e 1 v l.length (scells l)) : ∃ (A : Option Addr) (c : Nat), v = .slice A l.length c ∧ TReads w w.heap.size A l := by
  rcases h.2 with ⟨rfl, h0⟩ | ⟨g, cap, cur, rfl, hb, hh, hnc, hcm, hcs, htk⟩
  · exact ⟨none, 0, by rw [h0], fun h1 => absurd h1 (by omega)⟩
  · refine ⟨_, cap, rfl, fun _ => ?_⟩
    have hg : g < w.heap.size := by
      rcases Nat.lt_or_ge g w.heap.size with h1 | h1
      · exact h1
      · rw [Array.getElem?_eq_none h1] at hh; cases hh
    refine ⟨g, 0, rfl, hg, fun i x hx => ?_⟩
    obtain ⟨hi, rfl⟩ := List.getElem?_eq_some_iff.1 hx
    rw [Nat.zero_add, cell_of_row w g i cur e (0, 0) hh]
    have h2 : (cur.toList.take (l.length * 1))[i]? = (scells l)[i]? := by rw [htk]
    rw [List.getElem?_take, if_pos (by omega)] at h2
    rw [Array.getElem?_toList] at h2
    rw [h2]
    unfold scells
    rw [List.getElem?_map, List.getElem?_eq_getElem hi]; rfl
/-- two rows of the call's own that stand apart -/
def Two (a b : Value) : Prop := a.ownBlock = none ∨ a.ownBlock ≠ b.ownBlock
theorem own_lt {w : World} {base : Nat} {e : TypeId} {size n : Nat} {v : Value} {xs : List Value} (h : w.ownsRow base e size v n xs) {g : Nat} (hg : v.ownBlock = some g) : g < w.heap.size := (h.lt g hg).2
set_option maxHeartbeats 4000000 in
set_option maxRecDepth 100000 in
theorem TokenJoins_any (A : Option Addr) (c : Nat) (l : List Tk) (w : World) (hG : GT w) (hr : TkReads w w.heap.size A l) (hf : ∀ x ∈ l, x.s.size ≤ maxLen) (hn : l.length ≤ maxLen) :
    Calls Tryz.prog 5 #[.slice A l.length c] w fun e w' => e = .returned (.bool true) ∧ Below w.heap.size w w' := by
  have HG := Lib.hid hG
  have HR := Lib.hid (And.intro hr hf)
  have hn := Nat.le_trans hn (Nat.le_refl _)
  unfold maxLen at hn
  obtain ⟨i0, hi, hz0, hz1, hz2⟩ := info_parts infoPT
  obtain ⟨j0, hj, hy0, hy1, hy2⟩ := info_parts infoS
  clear hG hr hf
  go_enter Tryz.func5, Tryz.ntmps5
  go_wp2_with fail
  go_loopw [3, 4, 5] (fun v u i wr => ∃ k : Nat, k ≤ l.length ∧ k ≤ 60 ∧ i = .int .i64 k ∧ (∃ A c, v = .slice A k c) ∧ (∃ A c, u = .slice A k c) ∧ Hid (wr.ownsRow w.heap.size 36 3 v k (tcells (ctk k l)) ∧ wr.ownsRow w.heap.size 9 1 u k (scells ((ctk k l).map Tk.s)) ∧ Two u v ∧ Below w.heap.size w wr)) (fun _ _ i _ => l.length - (intOf i).toNat)
  case atStart => exact ⟨0, Nat.zero_le _, by decide, rfl, ⟨none, 0, rfl⟩, ⟨none, 0, rfl⟩, Lib.hid ⟨World.ownsRow_nil _ _ _ _, World.ownsRow_nil _ _ _ _, .inl rfl, Below.refl _ _⟩⟩
  case round =>
    obtain ⟨k, hk, hk6, rfl, ⟨A1, c1, rfl⟩, ⟨A2, c2, rfl⟩, HI⟩ := hrel
    by_cases hlt : k < l.length
    · have hlti : (k : Int) < (l.length : Int) := by omega
      by_cases hlm : k < 60
      · have hlmi : (k : Int) < 60 := by omega
        obtain ⟨b, o, rfl, hb, c0, c1', c2'⟩ := (HR.out.1.below HI.out.2.2.2 HI.out.2.2.2.size).at_ hlt
        have hsz := HR.out.2 l[k] (List.getElem_mem hlt)
        have HS := Lib.hid (ctk_succ l k hlt)
        unfold maxLen at hsz
        generalize l[k] = x at *
        obtain ⟨xk, xs, xa⟩ := x
        simp only at c0 c1' c2' hsz
        by_cases hle : xs.size ≤ 100
        · have hlei : (xs.size : Int) ≤ 100 := by omega
          have hmn : min (xs.size : Int) 100 = (xs.size : Int) := by omega
          have HX : Hid (cutTk ⟨xk, xs, xa⟩ = ⟨xk, xs, xa⟩) := Lib.hid (by unfold cutTk cutS; simp only; rw [if_pos hle])
          have HQ := Lib.hid (Reads.tok (t := ⟨xk, xs, xa⟩) (Blk.new' (w := wr.alloc (.cells #[.int .i64 xk, .string xs, .int .i64 xa] 36)) (g := wr.heap.size + 1) (t := 36) (cs := #[.int .i64 xk, .string xs, .int .i64 xa]) (by simp)) (B := wr.heap.size + 2) (by omega))
          go_wp2_with (at_builtin; refine wpList_append_any _ rfl (.tmp 29) (.tmp 31) 22 rfl w.heap.size 36 i0 (.agg #[.int .i64 0, .string ⟨#[]⟩, .int .i64 0]) 3 32 Tryz.underlying22 hi hz0 hz1 hz2 rfl (by decide) _ _ _ rfl ((HI.out.1.alloc _).alloc _) (wr.heap.size + 2) _ 1 1 (tcells [⟨xk, xs, xa⟩]) rfl HQ.out ?c1 ?c2 ?c3 ?c4 ?_)
          case c1 => exact tcells_one _
          case c2 => unfold maxLen; omega
          case c3 => omega
          case c4 => have := HI.out.2.2.2.size; simp <;> omega
          intro v2 w2 hown2 hgr2 hu2
          have HI2 : Hid (w2.ownsRow w.heap.size 36 3 v2 (k + 1) (tcells (ctk (k + 1) l)) ∧ w2.ownsRow w.heap.size 9 1 (.slice A2 k c2) k (scells ((ctk k l).map Tk.s)) ∧ Two (.slice A2 k c2) v2 ∧ Below w.heap.size w w2 ∧ Blk w2 wr.heap.size 36 #[.int .i64 xk, .string xs, .int .i64 xa]) := by
            obtain ⟨y1, y2, y3, y4⟩ := HI.out
            refine ⟨?_, ((y2.alloc _).alloc _).kept hgr2 y3, ?_, ((y4.alloc y4.size _).alloc (by have := y4.size; simp <;> omega) _).grown hgr2 (by have := y4.size; simp <;> omega) (own_base y1), ?_⟩
            · rw [HS.out, HX.out, tcells_append]
              exact hown2
            · rcases hu2 with e | e
              · unfold Two; rw [e]; exact y3
              · unfold Two; rw [e]
                cases hb2 : Value.ownBlock (.slice A2 k c2) with
                | none => exact .inl rfl
                | some g =>
                  refine .inr fun e2 => ?_
                  have h1 := own_lt y2 hb2
                  injection e2 with e2
                  subst e2
                  first | omega | (simp at h1; omega)
            · exact ((Blk.new wr 36 #[.int .i64 xk, .string xs, .int .i64 xa]).alloc _).grown hgr2 fun e => by
                have := own_lt y1 e.symm; omega
          obtain ⟨A3, c3, rfl⟩ := own_slc HI2.out.1
          have t1 : w2.cell? ⟨wr.heap.size, 1, none⟩ = some (.string xs) := HI2.out.2.2.2.2.cell 1
          have HQ2 := Lib.hid (Reads.one (Blk.new w2 9 #[.string xs]) (B := w2.heap.size + 1) (by omega))
          clear hown2 hgr2 hu2 HQ HI
          go_wp2_with (at_builtin; refine wpList_append_any _ rfl (.tmp 33) (.tmp 36) 32 rfl w.heap.size 9 j0 (.string ⟨#[]⟩) 1 16 Tryz.underlying32 hj hy0 hy1 hy2 rfl (by decide) _ _ _ rfl (HI2.out.2.1.alloc _) (w2.heap.size + 1) _ 1 1 [.string xs] rfl HQ2.out ?d1 ?d2 ?d3 ?d4 ?_)
          case d1 => intro z hz; simp only [List.mem_cons, List.not_mem_nil, or_false] at hz; subst hz; rfl
          case d2 => unfold maxLen; omega
          case d3 => omega
          case d4 => have := HI2.out.2.2.2.1.size; simp <;> omega
          intro v3 w3 hown3 hgr3 hu3
          have HN : Hid (w3.ownsRow w.heap.size 36 3 (.slice A3 (k + 1) c3) (k + 1) (tcells (ctk (k + 1) l)) ∧ w3.ownsRow w.heap.size 9 1 v3 (k + 1) (scells ((ctk (k + 1) l).map Tk.s)) ∧ Two v3 (.slice A3 (k + 1) c3) ∧ Below w.heap.size w w3) := by
            obtain ⟨y1, y2, y3, y4, -⟩ := HI2.out
            have y3' : Two (.slice A3 (k + 1) c3) (.slice A2 k c2) := by
              cases hb2 : Value.ownBlock (.slice A3 (k + 1) c3) with
              | none => exact .inl hb2
              | some g =>
                refine .inr fun e => ?_
                rcases y3 with h | h
                · rw [← e, hb2] at h; cases h
                · exact h e.symm
            refine ⟨(y1.alloc _).kept hgr3 y3', ?_, ?_, (y4.alloc y4.size _).grown hgr3 (by have := y4.size; simp <;> omega) (own_base y2)⟩
            · rw [HS.out, HX.out]
              rw [List.map_append]
              unfold scells at hown3 ⊢
              rw [List.map_append]
              exact hown3
            · rcases hu3 with e | e
              · unfold Two; rw [e]; exact y3
              · refine .inr fun e2 => ?_
                rw [e] at e2
                have h1 := own_lt y1 e2.symm
                first | omega | (simp at h1; omega)
          obtain ⟨A4, c4, rfl⟩ := own_slc HN.out.2.1
          clear hown3 hgr3 hu3 HQ2 HI2 t1
          go_wp2_with fail
          go_roundw
          case rel => exact ⟨k + 1, by omega, by omega, by go_num, ⟨A3, c3, rfl⟩, ⟨A4, c4, rfl⟩, HN⟩
          case measure => simp [intOf]; omega
        · have hgt : (100 : Int) < (xs.size : Int) := by omega
          have hmn : min (xs.size : Int) 100 = 100 := by omega
          have HX : Hid (cutTk ⟨xk, xs, xa⟩ = ⟨xk, (xs.extract 0 100), xa⟩) := Lib.hid (by unfold cutTk cutS; simp only; rw [if_neg hle])
          have HQ := Lib.hid (Reads.tok (t := ⟨xk, (xs.extract 0 100), xa⟩) (Blk.new' (w := wr.alloc (.cells #[.int .i64 xk, .string (xs.extract 0 100), .int .i64 xa] 36)) (g := wr.heap.size + 1) (t := 36) (cs := #[.int .i64 xk, .string (xs.extract 0 100), .int .i64 xa]) (by simp)) (B := wr.heap.size + 2) (by omega))
          go_wp2_with (at_builtin; refine wpList_append_any _ rfl (.tmp 29) (.tmp 31) 22 rfl w.heap.size 36 i0 (.agg #[.int .i64 0, .string ⟨#[]⟩, .int .i64 0]) 3 32 Tryz.underlying22 hi hz0 hz1 hz2 rfl (by decide) _ _ _ rfl ((HI.out.1.alloc _).alloc _) (wr.heap.size + 2) _ 1 1 (tcells [⟨xk, (xs.extract 0 100), xa⟩]) rfl HQ.out ?c1 ?c2 ?c3 ?c4 ?_)
          case c1 => exact tcells_one _
          case c2 => unfold maxLen; omega
          case c3 => omega
          case c4 => have := HI.out.2.2.2.size; simp <;> omega
          intro v2 w2 hown2 hgr2 hu2
          have HI2 : Hid (w2.ownsRow w.heap.size 36 3 v2 (k + 1) (tcells (ctk (k + 1) l)) ∧ w2.ownsRow w.heap.size 9 1 (.slice A2 k c2) k (scells ((ctk k l).map Tk.s)) ∧ Two (.slice A2 k c2) v2 ∧ Below w.heap.size w w2 ∧ Blk w2 wr.heap.size 36 #[.int .i64 xk, .string (xs.extract 0 100), .int .i64 xa]) := by
            obtain ⟨y1, y2, y3, y4⟩ := HI.out
            refine ⟨?_, ((y2.alloc _).alloc _).kept hgr2 y3, ?_, ((y4.alloc y4.size _).alloc (by have := y4.size; simp <;> omega) _).grown hgr2 (by have := y4.size; simp <;> omega) (own_base y1), ?_⟩
            · rw [HS.out, HX.out, tcells_append]
              exact hown2
            · rcases hu2 with e | e
              · unfold Two; rw [e]; exact y3
              · unfold Two; rw [e]
                cases hb2 : Value.ownBlock (.slice A2 k c2) with
                | none => exact .inl rfl
                | some g =>
                  refine .inr fun e2 => ?_
                  have h1 := own_lt y2 hb2
                  injection e2 with e2
                  subst e2
                  first | omega | (simp at h1; omega)
            · exact ((Blk.new wr 36 #[.int .i64 xk, .string (xs.extract 0 100), .int .i64 xa]).alloc _).grown hgr2 fun e => by
                have := own_lt y1 e.symm; omega
          obtain ⟨A3, c3, rfl⟩ := own_slc HI2.out.1
          have t1 : w2.cell? ⟨wr.heap.size, 1, none⟩ = some (.string (xs.extract 0 100)) := HI2.out.2.2.2.2.cell 1
          have HQ2 := Lib.hid (Reads.one (Blk.new w2 9 #[.string (xs.extract 0 100)]) (B := w2.heap.size + 1) (by omega))
          clear hown2 hgr2 hu2 HQ HI
          go_wp2_with (at_builtin; refine wpList_append_any _ rfl (.tmp 33) (.tmp 36) 32 rfl w.heap.size 9 j0 (.string ⟨#[]⟩) 1 16 Tryz.underlying32 hj hy0 hy1 hy2 rfl (by decide) _ _ _ rfl (HI2.out.2.1.alloc _) (w2.heap.size + 1) _ 1 1 [.string (xs.extract 0 100)] rfl HQ2.out ?d1 ?d2 ?d3 ?d4 ?_)
          case d1 => intro z hz; simp only [List.mem_cons, List.not_mem_nil, or_false] at hz; subst hz; rfl
          case d2 => unfold maxLen; omega
          case d3 => omega
          case d4 => have := HI2.out.2.2.2.1.size; simp <;> omega
          intro v3 w3 hown3 hgr3 hu3
          have HN : Hid (w3.ownsRow w.heap.size 36 3 (.slice A3 (k + 1) c3) (k + 1) (tcells (ctk (k + 1) l)) ∧ w3.ownsRow w.heap.size 9 1 v3 (k + 1) (scells ((ctk (k + 1) l).map Tk.s)) ∧ Two v3 (.slice A3 (k + 1) c3) ∧ Below w.heap.size w w3) := by
            obtain ⟨y1, y2, y3, y4, -⟩ := HI2.out
            have y3' : Two (.slice A3 (k + 1) c3) (.slice A2 k c2) := by
              cases hb2 : Value.ownBlock (.slice A3 (k + 1) c3) with
              | none => exact .inl hb2
              | some g =>
                refine .inr fun e => ?_
                rcases y3 with h | h
                · rw [← e, hb2] at h; cases h
                · exact h e.symm
            refine ⟨(y1.alloc _).kept hgr3 y3', ?_, ?_, (y4.alloc y4.size _).grown hgr3 (by have := y4.size; simp <;> omega) (own_base y2)⟩
            · rw [HS.out, HX.out]
              rw [List.map_append]
              unfold scells at hown3 ⊢
              rw [List.map_append]
              exact hown3
            · rcases hu3 with e | e
              · unfold Two; rw [e]; exact y3
              · refine .inr fun e2 => ?_
                rw [e] at e2
                have h1 := own_lt y1 e2.symm
                first | omega | (simp at h1; omega)
          obtain ⟨A4, c4, rfl⟩ := own_slc HN.out.2.1
          clear hown3 hgr3 hu3 HQ2 HI2 t1
          go_wp2_with fail
          go_roundw
          case rel => exact ⟨k + 1, by omega, by omega, by go_num, ⟨A3, c3, rfl⟩, ⟨A4, c4, rfl⟩, HN⟩
          case measure => simp [intOf]; omega
      · have hkf : decide ((k : Int) < (60 : Int)) = false := decide_eq_false (by omega)
        have hlc := ctk_len l k hk
        obtain ⟨L, hL⟩ : ∃ L, L = ctk k l := ⟨_, rfl⟩
        have HSz : Hid (∀ x ∈ L, x.s.size ≤ 20000) := Lib.hid (by rw [hL]; exact ctk_sz l k)
        have hI := HI.out
        rw [← hL] at hI hlc
        have HO : Hid (∃ A1' c1' A2' c2', Value.slice A1 k c1 = .slice A1' L.length c1' ∧ TkReads wr wr.heap.size A1' L ∧ Value.slice A2 k c2 = .slice A2' (L.map Tk.s).length c2' ∧ TReads wr wr.heap.size A2' (L.map Tk.s) ∧ Below w.heap.size w wr) := Lib.hid (by
          obtain ⟨y1, y2, -, y4⟩ := hI
          obtain ⟨A1', c1', e1, -, -, hr1, -⟩ := tk_reads (l := L) (by rw [hlc]; exact y1)
          obtain ⟨A2', c2', e2, hr2⟩ := str_reads (l := L.map Tk.s) (by rw [List.length_map, hlc]; exact y2)
          exact ⟨A1', c1', A2', c2', e1, hr1, e2, hr2, y4⟩)
        have hL60 : L.length ≤ 60 := by omega
        obtain ⟨A1', c1', A2', c2', e1, hr1, e2, hr2, hbw⟩ := HO.out
        injection e1 with f1 f2 f3
        injection e2 with g1 g2 g3
        subst f1 f3 g1 g3
        have HJ1 := Lib.hid (PJoin_any A1 c1 L wr (HG.out.thn hbw) hr1 HSz.out (by omega))
        have HJ2 : Hid (∀ w2, Below wr.heap.size wr w2 → Calls Tryz.prog 18 #[.slice A2 (L.map Tk.s).length c2] w2 fun e w' => e = .returned (.string ⟨(Tok.join (bytesL (L.map Tk.s))).toArray⟩) ∧ Below w2.heap.size w2 w') := Lib.hid fun w2 h2 => RJoin_any A2 c2 (L.map Tk.s) w2 (hr2.below h2 h2.size) (fun x hx => by
          obtain ⟨y, hy, rfl⟩ := List.mem_map.1 hx
          exact HSz.out y hy) (by rw [List.length_map]; omega)
        rw [List.length_map] at HJ2
        have HB := Lib.hid hbw
        generalize (⟨(Tok.join (bytesL (L.map Tk.s))).toArray⟩ : ByteArray) = t at *
        clear hI hL HI HO hr1 hr2 hbw HSz g2
        rw [hlc] at HJ1 HJ2
        clear f2 hlc
        go_wp2_with fail
        refine HJ1.out.mono ?_
        rintro e w2 ⟨rfl, hb2⟩
        have H2 := Lib.hid (thn HB.out hb2)
        have HJ3 := Lib.hid (HJ2.out w2 hb2)
        clear hb2
        go_wp2_with fail
        refine HJ3.out.mono ?_
        rintro e w3 ⟨rfl, hb3⟩
        have H3 := Lib.hid (thn H2.out hb3)
        have HG3 := Lib.hid (HG.out.thn H3.out)
        clear hb3
        go_wp2_with fail
        refine (awake8_any _ HG3.out).mono ?_
        rintro e w4 ⟨rfl, hb4⟩
        have H4 := Lib.hid (thn H3.out hb4)
        clear hb4
        go_wp2_with fail
        go_ret
        exact ⟨rfl, H4.out⟩
    · have hlf : decide ((k : Int) < (l.length : Int)) = false := decide_eq_false (by omega)
      have hlc := ctk_len l k hk
      obtain ⟨L, hL⟩ : ∃ L, L = ctk k l := ⟨_, rfl⟩
      have HSz : Hid (∀ x ∈ L, x.s.size ≤ 20000) := Lib.hid (by rw [hL]; exact ctk_sz l k)
      have hI := HI.out
      rw [← hL] at hI hlc
      have HO : Hid (∃ A1' c1' A2' c2', Value.slice A1 k c1 = .slice A1' L.length c1' ∧ TkReads wr wr.heap.size A1' L ∧ Value.slice A2 k c2 = .slice A2' (L.map Tk.s).length c2' ∧ TReads wr wr.heap.size A2' (L.map Tk.s) ∧ Below w.heap.size w wr) := Lib.hid (by
        obtain ⟨y1, y2, -, y4⟩ := hI
        obtain ⟨A1', c1', e1, -, -, hr1, -⟩ := tk_reads (l := L) (by rw [hlc]; exact y1)
        obtain ⟨A2', c2', e2, hr2⟩ := str_reads (l := L.map Tk.s) (by rw [List.length_map, hlc]; exact y2)
        exact ⟨A1', c1', A2', c2', e1, hr1, e2, hr2, y4⟩)
      have hL60 : L.length ≤ 60 := by omega
      obtain ⟨A1', c1', A2', c2', e1, hr1, e2, hr2, hbw⟩ := HO.out
      injection e1 with f1 f2 f3
      injection e2 with g1 g2 g3
      subst f1 f3 g1 g3
      have HJ1 := Lib.hid (PJoin_any A1 c1 L wr (HG.out.thn hbw) hr1 HSz.out (by omega))
      have HJ2 : Hid (∀ w2, Below wr.heap.size wr w2 → Calls Tryz.prog 18 #[.slice A2 (L.map Tk.s).length c2] w2 fun e w' => e = .returned (.string ⟨(Tok.join (bytesL (L.map Tk.s))).toArray⟩) ∧ Below w2.heap.size w2 w') := Lib.hid fun w2 h2 => RJoin_any A2 c2 (L.map Tk.s) w2 (hr2.below h2 h2.size) (fun x hx => by
        obtain ⟨y, hy, rfl⟩ := List.mem_map.1 hx
        exact HSz.out y hy) (by rw [List.length_map]; omega)
      rw [List.length_map] at HJ2
      have HB := Lib.hid hbw
      generalize (⟨(Tok.join (bytesL (L.map Tk.s))).toArray⟩ : ByteArray) = t at *
      clear hI hL HI HO hr1 hr2 hbw HSz g2
      rw [hlc] at HJ1 HJ2
      clear f2 hlc
      go_wp2_with fail
      refine HJ1.out.mono ?_
      rintro e w2 ⟨rfl, hb2⟩
      have H2 := Lib.hid (thn HB.out hb2)
      have HJ3 := Lib.hid (HJ2.out w2 hb2)
      clear hb2
      go_wp2_with fail
      refine HJ3.out.mono ?_
      rintro e w3 ⟨rfl, hb3⟩
      have H3 := Lib.hid (thn H2.out hb3)
      have HG3 := Lib.hid (HG.out.thn H3.out)
      clear hb3
      go_wp2_with fail
      refine (awake8_any _ HG3.out).mono ?_
      rintro e w4 ⟨rfl, hb4⟩
      have H4 := Lib.hid (thn H3.out hb4)
      clear hb4
      go_wp2_with fail
      go_ret
      exact ⟨rfl, H4.out⟩
end Go.Proofs.YtphgbfgccagcbaaGreatDoor
