/-
  TokF: CONTRACT of the reference's one, at a word, a name or a number.
  TokG: CONTRACT of the reference's one, at a sign; one, whatever stands there.
  TokH: Tokens in memory; CONTRACT of the reference's Tokens.
  TokI: CONTRACT of the reference's Join.
  TokJ: CONTRACT of the statements' same: two lists of the same tokens.
-/
import Derived.Test.YtphgbfgccagcbaaGreatDoorGA06
import Derived.Lib.AppendStr
import Derived.Lib.BufferRead
import Derived.Deep.QuietTactic
import Derived.BigQuiet
import Derived.RegionTactic
import Derived.BigRegion
namespace Go.Proofs.YtphgbfgccagcbaaGreatDoor
open Go.RowKit

theorem infoB : (Tryz.prog.info? 5).map (fun i => (i.zero, i.size, i.bytes)) = some (some (.int .u8 0), 1, 1) := by kernel_rfl
theorem Reads.one {w : World} {g B : Nat} {T : TypeId} {u : Value} (h : Blk w g T #[u]) (hg : g < B) : Reads w B 1 (some ⟨g, 0, none⟩) 1 [u] :=
  ⟨rfl, fun _ => ⟨_, rfl, hg, fun j x hj => by
    rw [addN, Nat.zero_add, h.cell j]
    match j, hj with
    | 0, hj => simpa using hj
    | j + 1, hj => simp at hj⟩⟩
theorem own_slc {w : World} {base : Nat} {T : TypeId} {c n : Nat} {v : Value} {xs : List Value} (h : w.ownsRow base T c v n xs) : ∃ A d, v = .slice A n d := by
  rcases h.2 with ⟨rfl, h1⟩ | ⟨g, cap, cur, rfl, _⟩
  · have hn : n = 0 := by subst h1; exact rfl
    subst hn
    exact ⟨none, 0, rfl⟩
  · exact ⟨_, _, rfl⟩
theorem run_stop : ∀ (l : List UInt8) (k : Nat), k ≤ l.length → (∀ x ∈ l.take k, Tok.inNm (Tok.sml x) = true) → (∀ h : k < l.length, Tok.inNm (Tok.sml l[k]) = false) → Tok.run l = (l.take k).map Tok.sml
  | [], k, _, _, _ => by simp [Tok.run]
  | c :: l, 0, _, _, h => by
    have h := h (by simp)
    rw [Tok.run, if_neg (by rw [List.getElem_cons_zero] at h; rw [h]; decide)]
    rfl
  | c :: l, k + 1, hk, h1, h2 => by
    have hc : Tok.inNm (Tok.sml c) = true := h1 c (by simp)
    rw [Tok.run, if_pos hc, run_stop l k (by simpa using hk) (fun x hx => h1 x (by simp [hx])) (fun h => h2 (by simpa using h))]
    rfl
theorem one_run_eq {l : List UInt8} (h39 : l.head? ≠ some 39) (hr : Tok.run l ≠ []) : oneB l = if isWd (Tok.run l) then some (1, Tok.run l) else if formed (Tok.run l) then some (2, Tok.run l) else if isNu (Tok.run l) then some (3, Tok.run l) else none := by
  cases l with
  | nil => exact absurd rfl hr
  | cons c r =>
    unfold oneB
    have hc : c ≠ 39 := fun e => h39 (by rw [e]; rfl)
    rw [Tok.one, if_neg hc, if_neg hr]
theorem map_take_snoc (s : ByteArray) (k : Nat) (h : k < s.size) : (s.data.toList.take (k + 1)).map Tok.sml = (s.data.toList.take k).map Tok.sml ++ [Tok.sml s[k]] := by
  rw [take_snoc s k h, List.map_append]; rfl
theorem in_take_snoc (s : ByteArray) (k : Nat) (h : k < s.size) (h1 : ∀ x ∈ s.data.toList.take k, Tok.inNm (Tok.sml x) = true) (h2 : Tok.inNm (Tok.sml s[k]) = true) : ∀ x ∈ s.data.toList.take (k + 1), Tok.inNm (Tok.sml x) = true := by
  rw [take_snoc s k h]
  intro x hx
  rcases List.mem_append.1 hx with h | h
  · exact h1 x h
  · rw [List.mem_singleton.1 h]; exact h2
set_option maxHeartbeats 4000000 in
set_option maxRecDepth 100000 in
theorem one_run (s : ByteArray) (w : World) (hs : s.size ≤ 20000) (h0 : 0 < s.size) (h39 : s.data.toList.head? ≠ some 39) (hrun : Tok.run s.data.toList ≠ []) :
    Calls Tryz.prog 20 #[.string s] w fun e w' => ∃ (k : Nat) (t : ByteArray) (n : Nat), e = .returned (.tuple #[.agg #[.int .i64 k, .string t, .int .i64 0], .int .i64 n]) ∧ BegT s k t n ∧ Below w.heap.size w w' := by
  have hlt0 : w.heap.size < (w.alloc (.cells #[.int .i64 0, .string ⟨#[]⟩, .int .i64 0] 44)).heap.size := by simp
  have HR0 := Lib.hid (Blk.new' (w := w) (g := w.heap.size) (t := 44) (cs := #[.int .i64 0, .string ⟨#[]⟩, .int .i64 0]) rfl)
  have hq : ((s[0].toNat : Int) == 39) = false := by
    simp
    intro e
    exact h39 (by rw [head_at s h0, eq39 (c := s[0]) (by omega)])
  have h0i : (0 : Int) < (s.size : Int) := by omega
  have HOne := Lib.hid (one_run_eq h39 hrun)
  have HRun := Lib.hid hrun
  have hlen : s.data.toList.length = s.size := Array.length_toList
  have HLen := Lib.hid hlen
  obtain ⟨i0, hi, hz0, hz1, hz2⟩ := info_parts infoB
  clear h39 hrun hlen
  go_enter Tryz.func20, Tryz.ntmps20
  go_wp2_with fail
  go_loopw [7] (fun v wr => ∃ k : Nat, k ≤ s.size ∧ (∃ A c, v = .slice A k c) ∧ Hid (wr.ownsRow (w.heap.size + 1) 5 1 v k (Lib.byteCells ((s.data.toList.take k).map Tok.sml)) ∧ Below w.heap.size w wr ∧ Blk wr w.heap.size 44 #[.int .i64 0, .string ⟨#[]⟩, .int .i64 0] ∧ ∀ x ∈ s.data.toList.take k, Tok.inNm (Tok.sml x) = true)) (fun v _ => s.size - (match v with | .slice _ n _ => n | _ => 0))
  case atStart => exact ⟨0, Nat.zero_le _, ⟨none, 0, rfl⟩, Lib.hid ⟨World.ownsRow_nil _ _ _ _, al (Below.refl _ _) _, HR0.out, by simp⟩⟩
  case round =>
    obtain ⟨k, hk, ⟨A, c, rfl⟩, HI⟩ := hrel
    by_cases hlt : k < s.size
    · have hlti : (k : Int) < (s.size : Int) := by omega
      cases hb : Tok.inNm (Tok.sml s[k]) with
      | true =>
        have HB := Lib.hid hb
        clear hb
        go_wp2_with fail
        refine (small_any s[k] _).mono ?_
        rintro e w' ⟨rfl, rfl⟩
        go_wp2_with fail
        refine (InName_any (Tok.sml s[k]) _).mono ?_
        rw [HB.out]
        rintro e w' ⟨rfl, rfl⟩
        go_wp2_with fail
        refine (small_any s[k] _).mono ?_
        rintro e w' ⟨rfl, rfl⟩
        have HQ := Lib.hid (Reads.one (Blk.new wr 5 #[.int .u8 ((Tok.sml s[k]).toNat : Int)]) (B := wr.heap.size + 1) (by omega))
        go_wp2_with (at_builtin; refine wpList_append_any _ rfl (.tmp 55) (.tmp 61) 54 rfl (w.heap.size + 1) 5 i0 (.int .u8 0) 1 1 Tryz.underlying54 hi hz0 hz1 hz2 rfl (by decide) _ _ _ rfl (HI.out.1.alloc (.cells #[.int .u8 ((Tok.sml s[k]).toNat : Int)] 5)) (wr.heap.size + 1) _ 1 1 [.int .u8 ((Tok.sml s[k]).toNat : Int)] rfl HQ.out ?c1 ?c2 ?c3 ?c4 ?_)
        case c1 => intro u hu; simp only [List.mem_cons, List.not_mem_nil, or_false] at hu; subst hu; rfl
        case c2 => unfold maxLen; omega
        case c3 => omega
        case c4 => have := HI.out.2.2.1.lt; simp <;> omega
        intro v2 w3 hown2 hgr2 hu2
        have HN : Hid (w3.ownsRow (w.heap.size + 1) 5 1 v2 (k + 1) (Lib.byteCells ((s.data.toList.take (k + 1)).map Tok.sml)) ∧ Below w.heap.size w w3 ∧ Blk w3 w.heap.size 44 #[.int .i64 0, .string ⟨#[]⟩, .int .i64 0] ∧ ∀ x ∈ s.data.toList.take (k + 1), Tok.inNm (Tok.sml x) = true) := by
          obtain ⟨y1, y2, y3, y4⟩ := HI.out
          refine ⟨?_, ?_, ?_, in_take_snoc s k hlt y4 HB.out⟩
          · rw [map_take_snoc s k hlt, Lib.byteCells_append]
            rw [← List.map_take] at hown2
            exact hown2
          · exact (y2.alloc y2.size _).grown hgr2 (by have := y2.size; simp <;> omega) fun g hg => by
              have := own_base y1 g hg; omega
          · exact (y3.alloc _).grown hgr2 fun e => by
              have := own_base y1 w.heap.size e.symm; omega
        obtain ⟨A2, d2, rfl⟩ := own_slc HN.out.1
        clear hown2 hgr2 hu2 HI HQ
        go_wp2_with fail
        go_roundw
        case rel => exact ⟨k + 1, by omega, ⟨A2, d2, rfl⟩, HN⟩
        case measure => simp; omega
      | false =>
        have HB := Lib.hid hb
        clear hb
        go_wp2_with fail
        refine (small_any s[k] _).mono ?_
        rintro e w' ⟨rfl, rfl⟩
        go_wp2_with fail
        refine (InName_any (Tok.sml s[k]) _).mono ?_
        rw [HB.out]
        rintro e w' ⟨rfl, rfl⟩
        have HU : Hid (Tok.run s.data.toList = (s.data.toList.take k).map Tok.sml) := Lib.hid (run_stop s.data.toList k (by rw [HLen.out]; exact hk) HI.out.2.2.2 (fun h => HB.out))
        have hkp : 0 < k := by
          rcases Nat.eq_zero_or_pos k with h | h
          · exact absurd (by rw [HU.out, h]; rfl) HRun.out
          · exact h
        obtain ⟨l, hl⟩ : ∃ l : List UInt8, l = (s.data.toList.take k).map Tok.sml := ⟨_, rfl⟩
        have hll : l.length = k := by rw [hl, List.length_map, List.length_take, HLen.out]; omega
        have HI2 := HI.out
        rw [← hl] at HI2
        obtain ⟨t, ht⟩ : ∃ t : ByteArray, t = ⟨l.toArray⟩ := ⟨_, rfl⟩
        have HT : Hid (t.data.toList = Tok.run s.data.toList) := Lib.hid (by rw [HU.out, ← hl, ht])
        have htz : t.size = k := by rw [ht, ← hll]; exact List.size_toArray ..
        have HC : Hid ((convert 54 9 (.slice A k c)).run Tryz.prog wr = .ok (.string t) wr) := Lib.hid (by
          rcases HI2.1.2 with ⟨e, h0⟩ | ⟨g, cap, cur, e, hg, hh, hnc, _, hsz, htk⟩
          · omega
          · injection e with e1 e2 e3
            subst e1 e3
            rw [ht, ← hll]
            exact run_convert_bytes_back wr _ _ 5 ⟨g, 0, none⟩ c l Tryz.underlying54 Tryz.underlying5 Tryz.underlying9 (Lib.bytes_of_row hh (by simpa [hll] using htk)))
        have HW : Hid (Below w.heap.size w wr ∧ Blk wr w.heap.size 44 #[.int .i64 0, .string ⟨#[]⟩, .int .i64 0]) := Lib.hid ⟨HI2.2.1, HI2.2.2.1⟩
        have hcv := HC.out
        have hte : t.toList.isEmpty = false := by
          rw [toList_eq]
          have : t.data.toList.length = k := by rw [Array.length_toList]; exact htz
          cases hd : t.data.toList with
          | nil => rw [hd] at this; simp at this; omega
          | cons a b => rfl
        have hmx : t.size ≤ maxLen := by unfold maxLen; omega
        clear HI2 HI HU hl hll ht HC htz
        go_wp2_with fail
        refine (IsWord8_any t _).mono ?_
        rw [HT.out]
        rintro e w2 ⟨rfl, hb2⟩
        have W2 := Lib.hid (thn HW.out.1 hb2)
        have HR2 := Lib.hid (HW.out.2.below hb2 HW.out.2.lt)
        clear hb2
        cases hw : isWd (Tok.run s.data.toList) with
        | true =>
          have HB : Hid (oneB s.data.toList = some (1, t.data.toList)) := Lib.hid (by rw [HOne.out, hw, HT.out]; rfl)
          have hs2 : w.heap.size < w2.heap.size := HR2.out.lt
          obtain ⟨⟨r0, r1, r2⟩, f0, f1, f2⟩ := HR2.out.three
          clear hw
          go_wp2_with fail
          obtain ⟨⟨q0, q1, q2⟩, -⟩ := (HR2.out.three_set (.int .i64 1) (.string t) (.int .i64 0)).three
          exact bodyPost_ret (v := .tuple #[.agg #[.int .i64 1, .string t, .int .i64 0], .int .i64 t.size]) (by simp [results, Tryz.results20, go_sem, q0, q1, q2]) rfl ⟨1, t, t.size, rfl, .inr ⟨rfl, HB.out⟩, st3 W2.out (Nat.le_refl _) _ _ _⟩
        | false =>
          have HWd := Lib.hid hw
          clear hw
          go_wp2_with fail
          refine (Formed_any t _ hmx).mono ?_
          rw [HT.out]
          rintro e w' ⟨rfl, rfl⟩
          cases hf : formed (Tok.run s.data.toList) with
          | true =>
            have HB : Hid (oneB s.data.toList = some (2, t.data.toList)) := Lib.hid (by rw [HOne.out, HWd.out, hf, HT.out]; rfl)
            have hs2 : w.heap.size < w2.heap.size := HR2.out.lt
            obtain ⟨⟨r0, r1, r2⟩, f0, f1, f2⟩ := HR2.out.three
            clear hf
            go_wp2_with fail
            obtain ⟨⟨q0, q1, q2⟩, -⟩ := (HR2.out.three_set (.int .i64 2) (.string t) (.int .i64 0)).three
            exact bodyPost_ret (v := .tuple #[.agg #[.int .i64 2, .string t, .int .i64 0], .int .i64 t.size]) (by simp [results, Tryz.results20, go_sem, q0, q1, q2]) rfl ⟨2, t, t.size, rfl, .inr ⟨rfl, HB.out⟩, st3 W2.out (Nat.le_refl _) _ _ _⟩
          | false =>
            have HFm := Lib.hid hf
            clear hf
            go_wp2_with fail
            refine (rNumber_any t _ hmx).mono ?_
            rintro e w4 ⟨m, b, rfl, hm, ha, hn, hb4⟩
            have HNu := Lib.hid (And.intro hm (And.intro ha hn))
            have W2' := Lib.hid (thn W2.out hb4)
            have HR2' := Lib.hid (HR2.out.below hb4 HR2.out.lt)
            clear hb4 ha hn W2 HR2
            have W2 := W2'
            have HR2 := HR2'
            clear W2' HR2'
            have hs2 : w.heap.size < w4.heap.size := HR2.out.lt
            obtain ⟨⟨r0, r1, r2⟩, f0, f1, f2⟩ := HR2.out.three
            cases b with
            | false =>
              have HB : Hid (oneB s.data.toList = none) := Lib.hid (by
                rw [HOne.out, HWd.out, HFm.out]
                rw [if_neg (by decide), if_neg (by decide), if_neg]
                intro hh
                obtain ⟨n, n0, n1, n2⟩ := isNu_iff.1 hh
                exact HNu.out.2.2 rfl n ⟨by omega, n1⟩ (ba_list (by rw [HT.out, ← n2])))
              clear hm
              go_wp2_with fail
              obtain ⟨⟨q0, q1, q2⟩, -⟩ := (HR2.out.three_set (.int .i64 0) (.string ⟨#[]⟩) (.int .i64 0)).three
              exact bodyPost_ret (v := .tuple #[.agg #[.int .i64 0, .string ⟨#[]⟩, .int .i64 0], .int .i64 0]) (by simp [results, Tryz.results20, go_sem, q0, q1, q2]) rfl ⟨0, ⟨#[]⟩, 0, rfl, .inl ⟨rfl, HB.out⟩, st3 W2.out (Nat.le_refl _) _ _ _⟩
            | true =>
              by_cases hm0 : m < 0
              · have HB : Hid (oneB s.data.toList = none) := Lib.hid (by
                  rw [HOne.out, HWd.out, HFm.out]
                  rw [if_neg (by decide), if_neg (by decide), if_neg]
                  intro hh
                  obtain ⟨n, n0, n1, n2⟩ := isNu_iff.1 hh
                  have e1 := HNu.out.2.1 rfl
                  have e2 : Lib.itoa m = Lib.itoa n := by
                    rw [n2, ← HT.out, ← e1]
                  have f1 := fold_itoa m hm
                  have f2 := fold_itoa n ⟨by omega, n1⟩
                  rw [e2, f2] at f1
                  obtain ⟨c1, r1, d1, d2⟩ := itoa_head n
                  unfold Lib.itoa at d1 e2
                  rw [if_neg (by omega : ¬ n < 0)] at d1 e2
                  rw [if_pos hm0, d1] at e2
                  injection e2 with e3 _
                  have d3 := (dec_dig n.toNat).2 c1 (by rw [d1]; simp)
                  rw [← e3] at d3
                  revert d3
                  decide)
                have hmd : decide (m < (0 : Int)) = true := decide_eq_true hm0
                clear hm hm0
                go_wp2_with fail
                obtain ⟨⟨q0, q1, q2⟩, -⟩ := (HR2.out.three_set (.int .i64 0) (.string ⟨#[]⟩) (.int .i64 0)).three
                exact bodyPost_ret (v := .tuple #[.agg #[.int .i64 0, .string ⟨#[]⟩, .int .i64 0], .int .i64 0]) (by simp [results, Tryz.results20, go_sem, q0, q1, q2]) rfl ⟨0, ⟨#[]⟩, 0, rfl, .inl ⟨rfl, HB.out⟩, st3 W2.out (Nat.le_refl _) _ _ _⟩
              · have HB : Hid (oneB s.data.toList = some (3, t.data.toList)) := Lib.hid (by
                  have e1 := HNu.out.2.1 rfl
                  have e2 : Lib.itoa m = Tok.run s.data.toList := by rw [← HT.out, ← e1]
                  rw [HOne.out, HWd.out, HFm.out, if_neg (by decide), if_neg (by decide), if_pos (isNu_iff.2 ⟨m, by omega, hm.2, e2⟩), HT.out])
                have hmd : decide (m < (0 : Int)) = false := decide_eq_false hm0
                clear hm hm0
                go_wp2_with fail
                obtain ⟨⟨q0, q1, q2⟩, -⟩ := (HR2.out.three_set (.int .i64 3) (.string t) (.int .i64 0)).three
                exact bodyPost_ret (v := .tuple #[.agg #[.int .i64 3, .string t, .int .i64 0], .int .i64 t.size]) (by simp [results, Tryz.results20, go_sem, q0, q1, q2]) rfl ⟨3, t, t.size, rfl, .inr ⟨rfl, HB.out⟩, st3 W2.out (Nat.le_refl _) _ _ _⟩
    · have hlf : decide ((k : Int) < (s.size : Int)) = false := decide_eq_false (by omega)
      have HU : Hid (Tok.run s.data.toList = (s.data.toList.take k).map Tok.sml) := Lib.hid (run_stop s.data.toList k (by rw [HLen.out]; exact hk) HI.out.2.2.2 (fun h => absurd (by rw [HLen.out] at h; exact h) hlt))
      have hkp : 0 < k := by
        rcases Nat.eq_zero_or_pos k with h | h
        · exact absurd (by rw [HU.out, h]; rfl) HRun.out
        · exact h
      obtain ⟨l, hl⟩ : ∃ l : List UInt8, l = (s.data.toList.take k).map Tok.sml := ⟨_, rfl⟩
      have hll : l.length = k := by rw [hl, List.length_map, List.length_take, HLen.out]; omega
      have HI2 := HI.out
      rw [← hl] at HI2
      obtain ⟨t, ht⟩ : ∃ t : ByteArray, t = ⟨l.toArray⟩ := ⟨_, rfl⟩
      have HT : Hid (t.data.toList = Tok.run s.data.toList) := Lib.hid (by rw [HU.out, ← hl, ht])
      have htz : t.size = k := by rw [ht, ← hll]; exact List.size_toArray ..
      have HC : Hid ((convert 54 9 (.slice A k c)).run Tryz.prog wr = .ok (.string t) wr) := Lib.hid (by
        rcases HI2.1.2 with ⟨e, h0⟩ | ⟨g, cap, cur, e, hg, hh, hnc, _, hsz, htk⟩
        · omega
        · injection e with e1 e2 e3
          subst e1 e3
          rw [ht, ← hll]
          exact run_convert_bytes_back wr _ _ 5 ⟨g, 0, none⟩ c l Tryz.underlying54 Tryz.underlying5 Tryz.underlying9 (Lib.bytes_of_row hh (by simpa [hll] using htk)))
      have HW : Hid (Below w.heap.size w wr ∧ Blk wr w.heap.size 44 #[.int .i64 0, .string ⟨#[]⟩, .int .i64 0]) := Lib.hid ⟨HI2.2.1, HI2.2.2.1⟩
      have hcv := HC.out
      have hte : t.toList.isEmpty = false := by
        rw [toList_eq]
        have : t.data.toList.length = k := by rw [Array.length_toList]; exact htz
        cases hd : t.data.toList with
        | nil => rw [hd] at this; simp at this; omega
        | cons a b => rfl
      have hmx : t.size ≤ maxLen := by unfold maxLen; omega
      clear HI2 HI HU hl hll ht HC htz
      go_wp2_with fail
      refine (IsWord8_any t _).mono ?_
      rw [HT.out]
      rintro e w2 ⟨rfl, hb2⟩
      have W2 := Lib.hid (thn HW.out.1 hb2)
      have HR2 := Lib.hid (HW.out.2.below hb2 HW.out.2.lt)
      clear hb2
      cases hw : isWd (Tok.run s.data.toList) with
      | true =>
        have HB : Hid (oneB s.data.toList = some (1, t.data.toList)) := Lib.hid (by rw [HOne.out, hw, HT.out]; rfl)
        have hs2 : w.heap.size < w2.heap.size := HR2.out.lt
        obtain ⟨⟨r0, r1, r2⟩, f0, f1, f2⟩ := HR2.out.three
        clear hw
        go_wp2_with fail
        obtain ⟨⟨q0, q1, q2⟩, -⟩ := (HR2.out.three_set (.int .i64 1) (.string t) (.int .i64 0)).three
        exact bodyPost_ret (v := .tuple #[.agg #[.int .i64 1, .string t, .int .i64 0], .int .i64 t.size]) (by simp [results, Tryz.results20, go_sem, q0, q1, q2]) rfl ⟨1, t, t.size, rfl, .inr ⟨rfl, HB.out⟩, st3 W2.out (Nat.le_refl _) _ _ _⟩
      | false =>
        have HWd := Lib.hid hw
        clear hw
        go_wp2_with fail
        refine (Formed_any t _ hmx).mono ?_
        rw [HT.out]
        rintro e w' ⟨rfl, rfl⟩
        cases hf : formed (Tok.run s.data.toList) with
        | true =>
          have HB : Hid (oneB s.data.toList = some (2, t.data.toList)) := Lib.hid (by rw [HOne.out, HWd.out, hf, HT.out]; rfl)
          have hs2 : w.heap.size < w2.heap.size := HR2.out.lt
          obtain ⟨⟨r0, r1, r2⟩, f0, f1, f2⟩ := HR2.out.three
          clear hf
          go_wp2_with fail
          obtain ⟨⟨q0, q1, q2⟩, -⟩ := (HR2.out.three_set (.int .i64 2) (.string t) (.int .i64 0)).three
          exact bodyPost_ret (v := .tuple #[.agg #[.int .i64 2, .string t, .int .i64 0], .int .i64 t.size]) (by simp [results, Tryz.results20, go_sem, q0, q1, q2]) rfl ⟨2, t, t.size, rfl, .inr ⟨rfl, HB.out⟩, st3 W2.out (Nat.le_refl _) _ _ _⟩
        | false =>
          have HFm := Lib.hid hf
          clear hf
          go_wp2_with fail
          refine (rNumber_any t _ hmx).mono ?_
          rintro e w4 ⟨m, b, rfl, hm, ha, hn, hb4⟩
          have HNu := Lib.hid (And.intro hm (And.intro ha hn))
          have W2' := Lib.hid (thn W2.out hb4)
          have HR2' := Lib.hid (HR2.out.below hb4 HR2.out.lt)
          clear hb4 ha hn W2 HR2
          have W2 := W2'
          have HR2 := HR2'
          clear W2' HR2'
          have hs2 : w.heap.size < w4.heap.size := HR2.out.lt
          obtain ⟨⟨r0, r1, r2⟩, f0, f1, f2⟩ := HR2.out.three
          cases b with
          | false =>
            have HB : Hid (oneB s.data.toList = none) := Lib.hid (by
              rw [HOne.out, HWd.out, HFm.out]
              rw [if_neg (by decide), if_neg (by decide), if_neg]
              intro hh
              obtain ⟨n, n0, n1, n2⟩ := isNu_iff.1 hh
              exact HNu.out.2.2 rfl n ⟨by omega, n1⟩ (ba_list (by rw [HT.out, ← n2])))
            clear hm
            go_wp2_with fail
            obtain ⟨⟨q0, q1, q2⟩, -⟩ := (HR2.out.three_set (.int .i64 0) (.string ⟨#[]⟩) (.int .i64 0)).three
            exact bodyPost_ret (v := .tuple #[.agg #[.int .i64 0, .string ⟨#[]⟩, .int .i64 0], .int .i64 0]) (by simp [results, Tryz.results20, go_sem, q0, q1, q2]) rfl ⟨0, ⟨#[]⟩, 0, rfl, .inl ⟨rfl, HB.out⟩, st3 W2.out (Nat.le_refl _) _ _ _⟩
          | true =>
            by_cases hm0 : m < 0
            · have HB : Hid (oneB s.data.toList = none) := Lib.hid (by
                rw [HOne.out, HWd.out, HFm.out]
                rw [if_neg (by decide), if_neg (by decide), if_neg]
                intro hh
                obtain ⟨n, n0, n1, n2⟩ := isNu_iff.1 hh
                have e1 := HNu.out.2.1 rfl
                have e2 : Lib.itoa m = Lib.itoa n := by
                  rw [n2, ← HT.out, ← e1]
                have f1 := fold_itoa m hm
                have f2 := fold_itoa n ⟨by omega, n1⟩
                rw [e2, f2] at f1
                obtain ⟨c1, r1, d1, d2⟩ := itoa_head n
                unfold Lib.itoa at d1 e2
                rw [if_neg (by omega : ¬ n < 0)] at d1 e2
                rw [if_pos hm0, d1] at e2
                injection e2 with e3 _
                have d3 := (dec_dig n.toNat).2 c1 (by rw [d1]; simp)
                rw [← e3] at d3
                revert d3
                decide)
              have hmd : decide (m < (0 : Int)) = true := decide_eq_true hm0
              clear hm hm0
              go_wp2_with fail
              obtain ⟨⟨q0, q1, q2⟩, -⟩ := (HR2.out.three_set (.int .i64 0) (.string ⟨#[]⟩) (.int .i64 0)).three
              exact bodyPost_ret (v := .tuple #[.agg #[.int .i64 0, .string ⟨#[]⟩, .int .i64 0], .int .i64 0]) (by simp [results, Tryz.results20, go_sem, q0, q1, q2]) rfl ⟨0, ⟨#[]⟩, 0, rfl, .inl ⟨rfl, HB.out⟩, st3 W2.out (Nat.le_refl _) _ _ _⟩
            · have HB : Hid (oneB s.data.toList = some (3, t.data.toList)) := Lib.hid (by
                have e1 := HNu.out.2.1 rfl
                have e2 : Lib.itoa m = Tok.run s.data.toList := by rw [← HT.out, ← e1]
                rw [HOne.out, HWd.out, HFm.out, if_neg (by decide), if_neg (by decide), if_pos (isNu_iff.2 ⟨m, by omega, hm.2, e2⟩), HT.out])
              have hmd : decide (m < (0 : Int)) = false := decide_eq_false hm0
              clear hm hm0
              go_wp2_with fail
              obtain ⟨⟨q0, q1, q2⟩, -⟩ := (HR2.out.three_set (.int .i64 3) (.string t) (.int .i64 0)).three
              exact bodyPost_ret (v := .tuple #[.agg #[.int .i64 3, .string t, .int .i64 0], .int .i64 t.size]) (by simp [results, Tryz.results20, go_sem, q0, q1, q2]) rfl ⟨3, t, t.size, rfl, .inr ⟨rfl, HB.out⟩, st3 W2.out (Nat.le_refl _) _ _ _⟩
end Go.Proofs.YtphgbfgccagcbaaGreatDoor
namespace Go.Proofs.YtphgbfgccagcbaaGreatDoor
open Go.RowKit

theorem signOf_hit {l : List UInt8} : ∀ (S : List (List UInt8)) (k : Nat) (h : k < S.length), (S.take k).any (fun x => x.isPrefixOf l) = false → S[k].isPrefixOf l = true → Tok.signOf l S = some S[k]
  | [], k, h, _, _ => by cases h
  | x :: S, 0, _, _, h => by
    rw [Tok.signOf, if_pos (by simpa using h)]; rfl
  | x :: S, k + 1, hk, h1, h2 => by
    simp only [List.take_succ_cons, List.any_cons, Bool.or_eq_false_iff] at h1
    rw [Tok.signOf, if_neg (by rw [h1.1]; decide)]
    exact signOf_hit S k (by simpa using hk) h1.2 (by simpa using h2)
theorem signOf_none {l : List UInt8} : ∀ (S : List (List UInt8)), S.any (fun x => x.isPrefixOf l) = false → Tok.signOf l S = none
  | [], _ => rfl
  | x :: S, h => by
    simp only [List.any_cons, Bool.or_eq_false_iff] at h
    rw [Tok.signOf, if_neg (by rw [h.1]; decide)]
    exact signOf_none S h.2
theorem pre_iff (x l : List UInt8) : x.isPrefixOf l = (decide (x.length ≤ l.length) && (l.take x.length == x)) := by
  rw [Bool.eq_iff_iff, List.isPrefixOf_iff_prefix]
  simp only [Bool.and_eq_true, decide_eq_true_eq, beq_iff_eq]
  constructor
  · rintro ⟨r, rfl⟩
    exact ⟨by simp, by simp⟩
  · rintro ⟨_, h⟩
    exact ⟨l.drop x.length, by
      have := List.take_append_drop x.length l
      rw [h] at this
      exact this⟩
theorem one_sign_eq {l : List UInt8} (hl : l ≠ []) (h39 : l.head? ≠ some 39) (hr : Tok.run l = []) : oneB l = (Tok.signOf l Tok.signs).map (fun x => (5, x)) := by
  cases l with
  | nil => exact absurd rfl hl
  | cons c r =>
    unfold oneB
    have hc : c ≠ 39 := fun e => h39 (by rw [e]; rfl)
    rw [Tok.one, if_neg hc, if_pos hr]
theorem run_nil_head {s : ByteArray} (h0 : 0 < s.size) (hr : Tok.run s.data.toList = []) : Tok.inNm (Tok.sml s[0]) = false := by
  obtain ⟨l, hl⟩ := bytes_cons h0
  rw [hl, Tok.run] at hr
  cases hb : Tok.inNm (Tok.sml s[0]) with
  | false => rfl
  | true => rw [hb] at hr; simp at hr
theorem signsB_len : signsB.length = 17 := rfl
theorem signs_at (k : Nat) (h : k < signsB.length) : ∃ h2 : k < Tok.signs.length, Tok.signs[k] = (signsB[k]'h).data.toList := ⟨h, by simp only [← signsB_eq, List.getElem_map]⟩
theorem signsB_size : ∀ x ∈ signsB, x.size ≤ 2 := by decide
set_option maxHeartbeats 4000000 in
set_option maxRecDepth 100000 in
theorem one_sign (s : ByteArray) (w : World) (hs : s.size ≤ 20000) (h0 : 0 < s.size) (h39 : s.data.toList.head? ≠ some 39) (hrun : Tok.run s.data.toList = []) :
    Calls Tryz.prog 20 #[.string s] w fun e w' => ∃ (k : Nat) (t : ByteArray) (n : Nat), e = .returned (.tuple #[.agg #[.int .i64 k, .string t, .int .i64 0], .int .i64 n]) ∧ BegT s k t n ∧ Below w.heap.size w w' := by
  have hlt0 : w.heap.size < (w.alloc (.cells #[.int .i64 0, .string ⟨#[]⟩, .int .i64 0] 44)).heap.size := by simp
  have HR0 := Lib.hid (Blk.new' (w := w) (g := w.heap.size) (t := 44) (cs := #[.int .i64 0, .string ⟨#[]⟩, .int .i64 0]) rfl)
  have hq : ((s[0].toNat : Int) == 39) = false := by
    simp
    intro e
    exact h39 (by rw [head_at s h0, eq39 (c := s[0]) (by omega)])
  have h0i : (0 : Int) < (s.size : Int) := by omega
  have hlen : s.data.toList.length = s.size := Array.length_toList
  have HOne := Lib.hid (one_sign_eq (fun e => by rw [e] at hlen; simp at hlen; omega) h39 hrun)
  have HB := Lib.hid (run_nil_head h0 hrun)
  have HLen := Lib.hid hlen
  have HL := Lib.hid signsB_len
  have HSz := Lib.hid signsB_size
  have hcv := fun w : World => Lib.run_convert_nil_bytes (P := Tryz.prog) w 54 9 5 0 Tryz.underlying54 Tryz.underlying5 Tryz.underlying9
  clear h39 hrun hlen
  go_enter Tryz.func20, Tryz.ntmps20
  go_wp2_with fail
  go_loop [7] (fun v => v = .slice none 0 0) (fun _ => 0)
  case atStart => exact rfl
  case round =>
    subst hrel
    go_wp2_with fail
    refine (small_any s[0] _).mono ?_
    rintro e w' ⟨rfl, rfl⟩
    go_wp2_with fail
    refine (InName_any (Tok.sml s[0]) _).mono ?_
    rw [HB.out]
    rintro e w' ⟨rfl, rfl⟩
    go_wp2_with fail
    refine (signs_t _).mono ?_
    rintro e w2 ⟨g, rfl, hB, hgg, hb2⟩
    have hge : ¬ g = w.heap.size := by simp at hgg; omega
    have hge2 : ¬ w.heap.size = g := by omega
    clear hgg
    have HW := Lib.hid (And.intro (thn (al (Below.refl _ w) (.cells #[.int .i64 0, .string ⟨#[]⟩, .int .i64 0] 44)) hb2) (And.intro (HR0.out.below hb2 hlt0) hB))
    clear hb2 hB hcv
    go_wp2_with fail
    go_loopw [12] (fun i wr => ∃ (k n : Nat), k ≤ 17 ∧ i = .int .i64 k ∧ wr = w2.drewN n ∧ Hid ((Tok.signs.take k).any (fun x => x.isPrefixOf s.data.toList) = false)) (fun i _ => 17 - (intOf i).toNat)
    case atStart => exact ⟨0, 0, by decide, rfl, rfl, Lib.hid rfl⟩
    case round =>
      obtain ⟨k, nd, hk, rfl, rfl, HI⟩ := hrel
      by_cases hlt : k < 17
      · have hlw : k < signsB.length := by rw [HL.out]; exact hlt
        have hlti : (k : Int) < 17 := by omega
        obtain ⟨b, o, e, -, hc⟩ := (TReads.new (HW.out.2.2.drewN nd)).at_ hlw
        injection e with e
        injection e with e1 e2 _
        subst e1 e2
        rw [Nat.zero_add] at hc
        have hc2 : w2.cell? ⟨g, k, none⟩ = some (.string signsB[k]) := hc
        have hx2 := HSz.out signsB[k] (List.getElem_mem hlw)
        have HP := Lib.hid (pre_iff signsB[k].data.toList s.data.toList)
        have HK := Lib.hid (signs_at k hlw)
        generalize signsB[k] = x at *
        have hxl : x.data.toList.length = x.size := Array.length_toList
        rw [hxl, HLen.out] at HP
        clear hxl
        by_cases hle : x.size ≤ s.size
        · have hlei : (x.size : Int) ≤ (s.size : Int) := by omega
          have hled : decide ((x.size : Int) ≤ (s.size : Int)) = true := decide_eq_true hlei
          have hx0 : (0 : Int) ≤ (x.size : Int) := by omega
          have HE : Hid (((s.extract 0 x.size).toList == x.toList) = x.data.toList.isPrefixOf s.data.toList) := Lib.hid (by
            rw [HP.out, decide_eq_true hle, sl_tl, extT]; rfl)
          cases hq2 : x.data.toList.isPrefixOf s.data.toList with
          | true =>
            have he : ((s.extract 0 x.size).toList == x.toList) = true := by rw [HE.out]; exact hq2
            have HQ := Lib.hid hq2
            clear hq2
            have HF : Hid (oneB s.data.toList = some (5, x.data.toList)) := Lib.hid (by
              obtain ⟨h1, h2⟩ := HK.out
              rw [HOne.out, signOf_hit Tok.signs k h1 HI.out (by rw [h2]; exact HQ.out), h2]; rfl)
            have hs2 : w.heap.size < w2.heap.size := HW.out.2.1.lt
            obtain ⟨⟨r0, r1, r2⟩, f0, f1, f2⟩ := HW.out.2.1.three
            go_wp2_with fail
            go_quiet (fail)
            go_wp2_with fail
            go_region
            go_wp2_with fail
            obtain ⟨⟨q0, q1, q2⟩, -⟩ := ((HW.out.2.1.drewN (nd + nq + 1)).three_set (.int .i64 5) (.string x) (.int .i64 0)).three
            exact bodyPost_ret (v := .tuple #[.agg #[.int .i64 5, .string x, .int .i64 0], .int .i64 x.size]) (by simp [results, Tryz.results20, go_sem, q0, q1, q2]) rfl ⟨5, x, x.size, rfl, .inr ⟨rfl, HF.out⟩, st3 (below_drewN HW.out.1 _) (Nat.le_refl _) _ _ _⟩
          | false =>
            have he : ((s.extract 0 x.size).toList == x.toList) = false := by rw [HE.out]; exact hq2
            have HQ := Lib.hid hq2
            clear hq2
            have HN := Lib.hid (any_take_snoc (fun x : List UInt8 => x.isPrefixOf s.data.toList) Tok.signs k HK.out.1 HI.out (by rw [HK.out.2]; exact HQ.out))
            go_wp2_with fail
            go_quiet (fail)
            go_wp2_with fail
            go_roundw
            case rel => exact ⟨k + 1, _, by omega, by go_num, rfl, HN⟩
            case measure => simp [intOf]; omega
        · have hled : decide ((x.size : Int) ≤ (s.size : Int)) = false := decide_eq_false (by omega)
          have HN := Lib.hid (any_take_snoc (fun x : List UInt8 => x.isPrefixOf s.data.toList) Tok.signs k HK.out.1 HI.out (by rw [HK.out.2, HP.out, decide_eq_false hle]; rfl))
          go_wp2_with fail
          go_quiet (fail)
          go_wp2_with fail
          go_roundw
          case rel => exact ⟨k + 1, _, by omega, by go_num, rfl, HN⟩
          case measure => simp [intOf]; omega
      · have hlf : decide ((k : Int) < (17 : Int)) = false := decide_eq_false (by omega)
        have HF : Hid (oneB s.data.toList = none) := Lib.hid (by
          have h := HI.out
          rw [List.take_of_length_le (by show 17 ≤ k; omega)] at h
          rw [HOne.out, signOf_none _ h]; rfl)
        have hs2 : w.heap.size < w2.heap.size := HW.out.2.1.lt
        obtain ⟨⟨r0, r1, r2⟩, f0, f1, f2⟩ := HW.out.2.1.three
        go_wp2_with fail
        obtain ⟨⟨q0, q1, q2⟩, -⟩ := ((HW.out.2.1.drewN nd).three_set (.int .i64 0) (.string ⟨#[]⟩) (.int .i64 0)).three
        exact bodyPost_ret (v := .tuple #[.agg #[.int .i64 0, .string ⟨#[]⟩, .int .i64 0], .int .i64 0]) (by simp [results, Tryz.results20, go_sem, q0, q1, q2]) rfl ⟨0, ⟨#[]⟩, 0, rfl, .inl ⟨rfl, HF.out⟩, st3 (below_drewN HW.out.1 nd) (Nat.le_refl _) _ _ _⟩
/-- THE TOKEN WITH WHICH A STRING BEGINS -/
theorem one_any (s : ByteArray) (w : World) (hs : s.size ≤ 20000) (h0 : 0 < s.size) :
    Calls Tryz.prog 20 #[.string s] w fun e w' => ∃ (k : Nat) (t : ByteArray) (n : Nat), e = .returned (.tuple #[.agg #[.int .i64 k, .string t, .int .i64 0], .int .i64 n]) ∧ BegT s k t n ∧ Below w.heap.size w w' := by
  by_cases h39 : s.data.toList.head? = some 39
  · exact one_text s w hs h0 h39
  · by_cases hr : Tok.run s.data.toList = []
    · exact one_sign s w hs h0 h39 hr
    · exact one_run s w hs h0 h39 hr
end Go.Proofs.YtphgbfgccagcbaaGreatDoor
namespace Go.Proofs.YtphgbfgccagcbaaGreatDoor
open Go.RowKit

/-- a token: its Kind, its Text, its At -/
structure Tk where
  k : Int
  s : ByteArray
  a : Int
def Tk.cells (t : Tk) : List Value := [.int .i64 t.k, .string t.s, .int .i64 t.a]
def tcells (l : List Tk) : List Value := l.flatMap Tk.cells
/-- the slice at A reads as these tokens, and lies below block B -/
def TkReads (w : World) (B : Nat) (A : Option Addr) (l : List Tk) : Prop :=
  0 < l.length → ∃ b o, A = some ⟨b, o, none⟩ ∧ b < B ∧ ∀ i (t : Tk), l[i]? = some t →
    w.cell? ⟨b, o + i * 3, none⟩ = some (.int .i64 t.k) ∧ w.cell? ⟨b, o + i * 3 + 1, none⟩ = some (.string t.s) ∧ w.cell? ⟨b, o + i * 3 + 2, none⟩ = some (.int .i64 t.a)
theorem TkReads.below {w w' : World} {B B' : Nat} {A : Option Addr} {l : List Tk} (h : TkReads w B A l) (hb : Below B w w') (hB : B ≤ B') : TkReads w' B' A l := fun h0 => by
  obtain ⟨b, o, rfl, hblk, hc⟩ := h h0
  refine ⟨b, o, rfl, by omega, fun i v hi => ?_⟩
  obtain ⟨c0, c1, c2⟩ := hc i v hi
  exact ⟨(hb.cell (p := ⟨b, _, none⟩) hblk).trans c0, (hb.cell (p := ⟨b, _, none⟩) hblk).trans c1, (hb.cell (p := ⟨b, _, none⟩) hblk).trans c2⟩
theorem TkReads.at_ {w : World} {B : Nat} {A : Option Addr} {l : List Tk} (h : TkReads w B A l) {i : Nat} (hi : i < l.length) : ∃ b o, A = some ⟨b, o, none⟩ ∧ b < B ∧
    w.cell? ⟨b, o + i * 3, none⟩ = some (.int .i64 l[i].k) ∧ w.cell? ⟨b, o + i * 3 + 1, none⟩ = some (.string l[i].s) ∧ w.cell? ⟨b, o + i * 3 + 2, none⟩ = some (.int .i64 l[i].a) := by
  obtain ⟨b, o, rfl, hblk, hc⟩ := h (by omega)
  exact ⟨b, o, rfl, hblk, hc i _ (List.getElem?_eq_getElem hi)⟩
theorem tcells_at : ∀ (l : List Tk) (i j : Nat) (v : Tk), l[i]? = some v → j < 3 → (tcells l)[i * 3 + j]? = v.cells[j]?
  | [], i, j, v, h, _ => by simp at h
  | x :: l, 0, j, v, h, hj => by
    simp at h; subst h
    unfold tcells
    rw [List.flatMap_cons, List.getElem?_append_left (by simp [Tk.cells]; omega)]
    simp
  | x :: l, i + 1, j, v, h, hj => by
    have ih := tcells_at l i j v (by simpa using h) hj
    unfold tcells at ih ⊢
    rw [List.flatMap_cons, List.getElem?_append_right (by simp [Tk.cells]; omega)]
    have e : (i + 1) * 3 + j - x.cells.length = i * 3 + j := by simp [Tk.cells]; omega
    rw [e, ih]
theorem tcells_one (l : List Tk) : ∀ u ∈ tcells l, u.oneCell' = true := fun u hu => by
  unfold tcells at hu
  rw [List.mem_flatMap] at hu
  obtain ⟨v, _, hv⟩ := hu
  simp [Tk.cells] at hv
  rcases hv with rfl | rfl | rfl <;> rfl
theorem tcells_append (l r : List Tk) : tcells (l ++ r) = tcells l ++ tcells r := by simp [tcells]
/-- one token in a block of its own, as the append's source -/
theorem Reads.tok {w : World} {g B : Nat} {T : TypeId} {t : Tk} (h : Blk w g T #[.int .i64 t.k, .string t.s, .int .i64 t.a]) (hg : g < B) : Reads w B 3 (some ⟨g, 0, none⟩) 1 (tcells [t]) :=
  ⟨rfl, fun _ => ⟨_, rfl, hg, fun j x hj => by
    rw [addN, Nat.zero_add, h.cell j]
    match j, hj with
    | 0, hj => simpa [tcells, Tk.cells] using hj
    | 1, hj => simpa [tcells, Tk.cells] using hj
    | 2, hj => simpa [tcells, Tk.cells] using hj
    | j + 3, hj => simp [tcells, Tk.cells] at hj⟩⟩
/-- what a row of the call's own reads as -/
theorem tk_reads {w : World} {base : Nat} {e : TypeId} {v : Value} {l : List Tk} (h : w.ownsRow base e 3 v l.length (tcells l)) :
    ∃ (A : Option Addr) (c : Nat), v = .slice A l.length c ∧ l.length ≤ c ∧ c ≤ maxLen ∧ TkReads w w.heap.size A l ∧ (0 < l.length → ∃ g, A = some ⟨g, 0, none⟩ ∧ base ≤ g) := by
  rcases h.2 with ⟨rfl, h0⟩ | ⟨g, cap, cur, rfl, hb, hh, hnc, hcm, hcs, htk⟩
  · exact ⟨none, 0, by rw [h0], by omega, Nat.zero_le _, (fun h1 => absurd h1 (by omega)), (fun h1 => absurd h1 (by omega))⟩
  · refine ⟨_, cap, rfl, hnc, hcm, (fun h1 => ?_), (fun _ => ⟨g, rfl, hb⟩)⟩
    have hg : g < w.heap.size := by
      rcases Nat.lt_or_ge g w.heap.size with h1 | h1
      · exact h1
      · rw [Array.getElem?_eq_none h1] at hh; cases hh
    refine ⟨g, 0, rfl, hg, fun i x hx => ?_⟩
    have cell : ∀ j, j < 3 → w.cell? ⟨g, i * 3 + j, none⟩ = x.cells[j]? := fun j hj => by
      rw [cell_of_row w g (i * 3 + j) cur e (0, 0) hh, ← tcells_at l i j x hx hj, ← htk]
      have hi : i < l.length := by
        rcases Nat.lt_or_ge i l.length with h1 | h1
        · exact h1
        · rw [List.getElem?_eq_none h1] at hx; cases hx
      rw [List.getElem?_take, if_pos (by omega)]
      simp
    have c0 := cell 0 (by decide)
    have c1 := cell 1 (by decide)
    have c2 := cell 2 (by decide)
    simp only [Nat.zero_add, Nat.add_zero] at c0 c1 c2 ⊢
    exact ⟨c0, c1, c2⟩

/-- a token of the definition, as it stands in memory -/
def toTk (x : Nat × List UInt8 × Nat) : Tk := ⟨x.1, ⟨x.2.1.toArray⟩, x.2.2⟩
/-- the tokens of a string that begins at a place -/
abbrev tkB (a : Nat) (l : List UInt8) : Option (List (Nat × List UInt8 × Nat)) := Tok.tkz isWd formed isNu isTx a l
theorem infoTk : (Tryz.prog.info? 44).map (fun i => (i.zero, i.size, i.bytes)) = some (some (.agg #[.int .i64 0, .string ⟨#[]⟩, .int .i64 0]), 3, 32) := by kernel_rfl
/-- the tokens that were returned: new memory -/
def OutTk (w w' : World) (T : TypeId) (v : Value) (l : List Tk) : Prop := w'.ownsRow w.heap.size T 3 v l.length (tcells l)
/-- what the reference says of a string's tokens -/
def RToks (w w' : World) (l : List UInt8) (e : Ending) : Prop :=
  (∃ v ts, e = .returned (.tuple #[v, .bool true]) ∧ tkB 0 l = some ts ∧ OutTk w w' 44 v (ts.map toTk)) ∨ (e = .returned (.tuple #[.slice none 0 0, .bool false]) ∧ tkB 0 l = none)
theorem map_cons_app {α : Type} (o : Option (List α)) (a : List α) (x : α) : (o.map (x :: ·)).map (a ++ ·) = o.map ((a ++ [x]) ++ ·) := by
  cases o <;> simp
set_option maxHeartbeats 4000000 in
set_option maxRecDepth 100000 in
theorem RTokens_any (s : ByteArray) (w : World) (hs : s.size ≤ 20000) :
    Calls Tryz.prog 9 #[.string s] w fun e w' => RToks w w' s.data.toList e ∧ Below w.heap.size w w' := by
  obtain ⟨i0, hi, hz0, hz1, hz2⟩ := info_parts infoTk
  have hlen : s.data.toList.length = s.size := Array.length_toList
  have HLen := Lib.hid hlen
  clear hlen
  go_enter Tryz.func9, Tryz.ntmps9
  go_wp2_with fail
  go_loopw [4, 5] (fun ov av wr => ∃ (k : Nat) (ts : List (Nat × List UInt8 × Nat)), av = .int .i64 k ∧ k ≤ s.size ∧ ts.length ≤ k ∧ (∃ A c, ov = .slice A ts.length c) ∧ Hid (wr.ownsRow w.heap.size 44 3 ov ts.length (tcells (ts.map toTk)) ∧ Below w.heap.size w wr) ∧ Hid (tkB 0 s.data.toList = (tkB k (s.data.toList.drop k)).map (ts ++ ·))) (fun _ av _ => s.size - (intOf av).toNat)
  case atStart => exact ⟨0, [], rfl, Nat.zero_le _, Nat.zero_le _, ⟨none, 0, rfl⟩, Lib.hid ⟨World.ownsRow_nil _ _ _ _, Below.refl _ _⟩, Lib.hid (by rw [List.drop_zero]; cases tkB 0 s.data.toList <;> simp)⟩
  case round =>
    obtain ⟨k, ts, rfl, hk, htk, ⟨A, c, rfl⟩, HI, HT⟩ := hrel
    by_cases hlt : k < s.size
    · have hlti : (k : Int) < (s.size : Int) := by omega
      have hki : (k : Int) ≤ (s.size : Int) := by omega
      have HD := Lib.hid (dropc s k hlt)
      by_cases h32 : (s[k].toNat : Int) = 32
      · have e32 : ((s[k].toNat : Int) == 32) = true := by simp [h32]
        have HN : Hid (tkB 0 s.data.toList = (tkB (k + 1) (s.data.toList.drop (k + 1))).map (ts ++ ·)) := Lib.hid (by
          rw [HT.out, HD.out]
          unfold tkB
          rw [Tok.tkz_blank k _ (.inl (UInt8.toNat_inj.1 (show s[k].toNat = 32 by omega)))])
        clear h32
        go_wp2_with fail
        go_roundw
        case rel => exact ⟨k + 1, ts, by go_num, by omega, by omega, ⟨A, c, rfl⟩, HI, HN⟩
        case measure => simp [intOf]; omega
      · have e32 : ((s[k].toNat : Int) == 32) = false := beq_eq_false_iff_ne.2 h32
        by_cases h10 : (s[k].toNat : Int) = 10
        · have e10 : ((s[k].toNat : Int) == 10) = true := by simp [h10]
          have HN : Hid (tkB 0 s.data.toList = (tkB (k + 1) (s.data.toList.drop (k + 1))).map (ts ++ ·)) := Lib.hid (by
            rw [HT.out, HD.out]
            unfold tkB
            rw [Tok.tkz_blank k _ (.inr (UInt8.toNat_inj.1 (show s[k].toNat = 10 by omega)))])
          clear h32 h10
          go_wp2_with fail
          go_roundw
          case rel => exact ⟨k + 1, ts, by go_num, by omega, by omega, ⟨A, c, rfl⟩, HI, HN⟩
          case measure => simp [intOf]; omega
        · have e10 : ((s[k].toNat : Int) == 10) = false := beq_eq_false_iff_ne.2 h10
          have HNb : Hid (¬ (s[k] = 32 ∨ s[k] = 10)) := Lib.hid (by
            rintro (e | e)
            · exact h32 (by rw [e]; rfl)
            · exact h10 (by rw [e]; rfl))
          have hps : (s.extract k s.size).size ≤ 20000 := by rw [ByteArray.size_extract]; omega
          have hp0 : 0 < (s.extract k s.size).size := by rw [ByteArray.size_extract]; omega
          have hxz : (s.extract k s.size).size = s.size - k := by rw [ByteArray.size_extract]; omega
          clear h32 h10
          go_wp2_with fail
          refine (one_any (s.extract k s.size) wr hps hp0).mono ?_
          rintro e w2 ⟨kk, t, n, rfl, hbeg, hb2⟩
          have HI2 := Lib.hid (And.intro (own_below HI.out.1 hb2) (thn HI.out.2 hb2))
          clear hb2 HI hps hp0
          unfold BegT at hbeg
          rw [extD] at hbeg
          rcases hbeg with ⟨rfl, hno⟩ | ⟨rfl, hone⟩
          · have HN : Hid (tkB 0 s.data.toList = none) := Lib.hid (by
              rw [HT.out, HD.out]
              unfold tkB
              rw [Tok.tkz_none k _ HNb.out (by rw [← HD.out]; exact hno)]; rfl)
            clear hno hxz
            go_wp2_with fail
            go_ret2
            exact ⟨.inr ⟨rfl, HN.out⟩, al HI2.out.2 _⟩
          · have hat := Tok.one_at hone
            have ht0 : 0 < t.size := by
              have h1 := List.length_pos_iff.2 hat.1
              rw [Array.length_toList] at h1
              exact h1
            have htl : k + t.size ≤ s.size := by
              obtain ⟨-, -, -, h1, -⟩ := hat
              rw [List.length_drop, HLen.out, Array.length_toList] at h1
              have h2 : t.data.size = t.size := rfl
              omega
            have HTx : Hid (tkB 0 s.data.toList = (tkB (k + t.size) (s.data.toList.drop (k + t.size))).map ((ts ++ [(kk, t.data.toList, k)]) ++ ·)) := Lib.hid (by
              rw [HT.out, HD.out]
              unfold tkB
              have hl : t.data.toList.length = t.size := Array.length_toList
              rw [Tok.tkz_some k _ HNb.out (by rw [← HD.out]; exact hone), map_cons_app, ← HD.out, List.drop_drop, hl])
            have htz : ((t.size : Int) == 0) = false := beq_eq_false_iff_ne.2 (by omega)
            have HTk : Hid (toTk (kk, t.data.toList, k) = ⟨kk, t, k⟩) := Lib.hid (by unfold toTk; simp only [ba_of])
            have HQ := Lib.hid (Reads.tok (t := ⟨kk, t, k⟩) (Blk.new' (w := w2.alloc (.cells #[.int .i64 kk, .string t, .int .i64 k] 44)) (g := w2.heap.size + 1) (t := 44) (cs := #[.int .i64 kk, .string t, .int .i64 k]) (by simp)) (B := w2.heap.size + 2) (by omega))
            clear hat hone hxz
            go_wp2_with (at_builtin; refine wpList_append_any _ rfl (.tmp 35) (.tmp 37) 27 rfl w.heap.size 44 i0 (.agg #[.int .i64 0, .string ⟨#[]⟩, .int .i64 0]) 3 32 Tryz.underlying27 hi hz0 hz1 hz2 rfl (by decide) _ _ _ rfl ((HI2.out.1.alloc _).alloc _) (w2.heap.size + 2) _ 1 1 (tcells [⟨kk, t, k⟩]) rfl HQ.out ?c1 ?c2 ?c3 ?c4 ?_)
            case c1 => exact tcells_one _
            case c2 => unfold maxLen; omega
            case c3 => omega
            case c4 => have := HI2.out.2.size; simp <;> omega
            intro v2 w3 hown2 hgr2 hu2
            have HN : Hid (w3.ownsRow w.heap.size 44 3 v2 (ts ++ [(kk, t.data.toList, k)]).length (tcells ((ts ++ [(kk, t.data.toList, k)]).map toTk)) ∧ Below w.heap.size w w3) := by
              refine ⟨?_, ((HI2.out.2.alloc HI2.out.2.size _).alloc (by have := HI2.out.2.size; simp <;> omega) _).grown hgr2 (by have := HI2.out.2.size; simp <;> omega) (own_base HI2.out.1)⟩
              rw [List.map_append, tcells_append, List.length_append]
              simp only [List.map_cons, List.map_nil, HTk.out]
              exact hown2
            obtain ⟨A2, d2, rfl⟩ := own_slc HN.out.1
            have hl2 : (ts ++ [(kk, t.data.toList, k)]).length ≤ k + t.size := by rw [List.length_append]; simp; omega
            clear hown2 hgr2 hu2 HI2 HQ HTk
            generalize ts ++ [(kk, t.data.toList, k)] = ts2 at *
            go_wp2_with fail
            go_roundw
            case rel => exact ⟨k + t.size, ts2, by go_num, by omega, by omega, ⟨A2, d2, rfl⟩, HN, HTx⟩
            case measure => simp [intOf]; omega
    · have hlf : decide ((k : Int) < (s.size : Int)) = false := decide_eq_false (by omega)
      have HN : Hid (tkB 0 s.data.toList = some ts) := Lib.hid (by
        rw [HT.out, List.drop_eq_nil_of_le (by rw [HLen.out]; omega)]
        unfold tkB
        rw [Tok.tkz_nil]; simp)
      have HO : Hid (OutTk w wr 44 (.slice A ts.length c) (ts.map toTk)) := Lib.hid (by
        unfold OutTk
        rw [List.length_map]; exact HI.out.1)
      go_wp2_with fail
      go_ret2
      exact ⟨.inl ⟨_, ts, rfl, HN.out, HO.out⟩, HI.out.2⟩
end Go.Proofs.YtphgbfgccagcbaaGreatDoor
namespace Go.Proofs.YtphgbfgccagcbaaGreatDoor
open Go.RowKit

theorem join_snoc : ∀ (l : List (List UInt8)) (t : List UInt8), Tok.join (l ++ [t]) = if l = [] then t else Tok.join l ++ 32 :: t
  | [], t => rfl
  | [u], t => by simp [Tok.join]
  | u :: v :: l, t => by
    have ih := join_snoc (v :: l) t
    rw [if_neg (by simp)] at ih
    rw [if_neg (by simp)]
    show Tok.join (u :: v :: (l ++ [t])) = _
    rw [Tok.join, Tok.join]
    rw [List.cons_append] at ih
    rw [ih]
    simp
/-- the bytes of the first k texts, with a blank behind them if one more follows -/
def bytesL (l : List ByteArray) : List (List UInt8) := l.map fun x => x.data.toList
theorem join_take (l : List ByteArray) (k : Nat) (h : k < l.length) : Tok.join (bytesL (l.take (k + 1))) = if k = 0 then l[k].data.toList else Tok.join (bytesL (l.take k)) ++ 32 :: l[k].data.toList := by
  unfold bytesL
  rw [List.take_succ_eq_append_getElem h, List.map_append]
  simp only [List.map_cons, List.map_nil]
  rw [join_snoc]
  by_cases hk : k = 0
  · subst hk; simp
  · rw [if_neg, if_neg hk]
    intro e
    have := congrArg List.length e
    rw [List.length_map, List.length_take, List.length_nil] at this
    omega
theorem join_bound (l : List ByteArray) (h : ∀ x ∈ l, x.size ≤ 20000) : ∀ k, k ≤ l.length → (Tok.join (bytesL (l.take k))).length ≤ 20001 * k
  | 0, _ => by simp [bytesL, Tok.join]
  | k + 1, hk => by
    have hlt : k < l.length := hk
    have ih := join_bound l h k (Nat.le_of_lt hlt)
    have h2 := h (l[k]'hlt) (List.getElem_mem hlt)
    have h3 : (l[k]'hlt).data.toList.length = (l[k]'hlt).size := Array.length_toList
    rw [join_take l k hlt]
    generalize l[k]'hlt = x at *
    split
    · omega
    · rw [List.length_append, List.length_cons]; omega
set_option maxHeartbeats 4000000 in
set_option maxRecDepth 100000 in
theorem RJoin_any (A : Option Addr) (c : Nat) (l : List ByteArray) (w : World) (hr : TReads w w.heap.size A l) (hf : ∀ x ∈ l, x.size ≤ 20000) (hn : l.length ≤ 20000) :
    Calls Tryz.prog 18 #[.slice A l.length c] w fun e w' => e = .returned (.string ⟨(Tok.join (bytesL l)).toArray⟩) ∧ Below w.heap.size w w' := by
  obtain ⟨i0, hi, hz0, hz1, hz2⟩ := info_parts infoB
  have HR := Lib.hid (And.intro hr hf)
  clear hr hf
  go_enter Tryz.func18, Tryz.ntmps18
  go_wp2_with fail
  go_loopw [3, 4] (fun b i wr => ∃ (k m : Nat), k ≤ l.length ∧ i = .int .i64 k ∧ (∃ A c, b = .slice A m c) ∧ m ≤ 20001 * k ∧ Hid (wr.ownsRow w.heap.size 5 1 b m (Lib.byteCells (Tok.join (bytesL (l.take k)))) ∧ m = (Tok.join (bytesL (l.take k))).length ∧ Below w.heap.size w wr)) (fun _ i _ => l.length - (intOf i).toNat)
  case atStart => exact ⟨0, 0, Nat.zero_le _, rfl, ⟨none, 0, rfl⟩, Nat.zero_le _, Lib.hid ⟨World.ownsRow_nil _ _ _ _, rfl, Below.refl _ _⟩⟩
  case round =>
    obtain ⟨k, m, hk, rfl, ⟨Ab, cb, rfl⟩, hm, HI⟩ := hrel
    by_cases hlt : k < l.length
    · have hlti : (k : Int) < (l.length : Int) := by omega
      have hx := HR.out.2 l[k] (List.getElem_mem hlt)
      have HJ := Lib.hid (join_take l k hlt)
      have HBd := Lib.hid (join_bound l HR.out.2 (k + 1) (by omega))
      have hrd := HR.out.1.at_ hlt
      generalize l[k] = x at *
      by_cases hk0 : k = 0
      · have hkd : decide (0 < k) = false := decide_eq_false (by omega)
        have hkd2 : ¬ 0 < k := by omega
        have HE : Hid (Tok.join (bytesL (l.take (k + 1))) = Tok.join (bytesL (l.take k)) ++ x.data.toList) := Lib.hid (by
          rw [HJ.out, if_pos hk0, hk0]; rfl)
        obtain ⟨p, o, rfl, hblk, hc⟩ := hrd
        have hcell := (HI.out.2.2.cell (p := ⟨p, o + k, none⟩) hblk).trans hc
        clear hk0 hc
        go_wp2_with (at_builtin; refine Lib.wpList_append_own_string _ rfl (.tmp 16) (.tmp 20) 54 9 rfl w.heap.size 5 i0 Tryz.underlying54 Tryz.underlying9 hi hz0 hz1 hz2 _ _ _ rfl HI.out.1 x rfl ?c1 ?c2 ?c3 ?_)
        case c1 => unfold maxLen; omega
        case c2 => omega
        case c3 => exact HI.out.2.2.size
        intro v' w3 hown hgr _
        have HN : Hid (w3.ownsRow w.heap.size 5 1 v' (m + x.size) (Lib.byteCells (Tok.join (bytesL (l.take (k + 1))))) ∧ m + x.size = (Tok.join (bytesL (l.take (k + 1)))).length ∧ Below w.heap.size w w3) := by
          have hxl : x.data.toList.length = x.size := Array.length_toList
          refine ⟨?_, ?_, HI.out.2.2.grown hgr HI.out.2.2.size (own_base HI.out.1)⟩
          · rw [HE.out, Lib.byteCells_append]
            exact hown
          · rw [HE.out, List.length_append, ← HI.out.2.1, hxl]
        obtain ⟨A2, d2, rfl⟩ := own_slc HN.out.1
        have hm2 : m + x.size ≤ 20001 * (k + 1) := by rw [HN.out.2.1]; exact HBd.out
        clear hown hgr HI HE HJ
        generalize m + x.size = m2 at *
        go_wp2_with fail
        go_roundw
        case rel => exact ⟨k + 1, m2, by omega, by go_num, ⟨A2, d2, rfl⟩, hm2, HN⟩
        case measure => simp [intOf]; omega
      · have hkd : decide (0 < k) = true := decide_eq_true (by omega)
        have hkd2 : 0 < k := by omega
        have HE : Hid (Tok.join (bytesL (l.take (k + 1))) = (Tok.join (bytesL (l.take k)) ++ [32]) ++ x.data.toList) := Lib.hid (by
          rw [HJ.out, if_neg hk0]; simp)
        have HQ := Lib.hid (Reads.one (Blk.new wr 5 #[.int .u8 32]) (B := wr.heap.size + 1) (by omega))
        obtain ⟨p, o, rfl, hblk, hc⟩ := hrd
        clear hk0
        go_wp2_with (at_builtin; refine wpList_append_any _ rfl (.tmp 13) (.tmp 14) 54 rfl w.heap.size 5 i0 (.int .u8 0) 1 1 Tryz.underlying54 hi hz0 hz1 hz2 rfl (by decide) _ _ _ rfl (HI.out.1.alloc _) (wr.heap.size + 1) _ 1 1 [.int .u8 32] rfl HQ.out ?c1 ?c2 ?c3 ?c4 ?_)
        case c1 => intro u hu; simp only [List.mem_cons, List.not_mem_nil, or_false] at hu; subst hu; rfl
        case c2 => unfold maxLen; omega
        case c3 => omega
        case c4 => have := HI.out.2.2.size; simp <;> omega
        intro v2 w2 hown2 hgr2 _
        have HI2 : Hid (w2.ownsRow w.heap.size 5 1 v2 (m + 1) (Lib.byteCells (Tok.join (bytesL (l.take k)) ++ [32])) ∧ Below w.heap.size w w2) := by
          refine ⟨?_, (HI.out.2.2.alloc HI.out.2.2.size _).grown hgr2 (by have := HI.out.2.2.size; simp <;> omega) (own_base HI.out.1)⟩
          rw [Lib.byteCells_append]
          exact hown2
        have hcell := (HI2.out.2.cell (p := ⟨p, o + k, none⟩) hblk).trans hc
        obtain ⟨A1, d1, rfl⟩ := own_slc HI2.out.1
        clear hown2 hgr2 HQ hc
        go_wp2_with (at_builtin; refine Lib.wpList_append_own_string _ rfl (.tmp 16) (.tmp 20) 54 9 rfl w.heap.size 5 i0 Tryz.underlying54 Tryz.underlying9 hi hz0 hz1 hz2 _ _ _ rfl HI2.out.1 x rfl ?d1 ?d2 ?d3 ?_)
        case d1 => unfold maxLen; omega
        case d2 => omega
        case d3 => exact HI2.out.2.size
        intro v' w3 hown hgr _
        have HN : Hid (w3.ownsRow w.heap.size 5 1 v' (m + 1 + x.size) (Lib.byteCells (Tok.join (bytesL (l.take (k + 1))))) ∧ m + 1 + x.size = (Tok.join (bytesL (l.take (k + 1)))).length ∧ Below w.heap.size w w3) := by
          have hxl : x.data.toList.length = x.size := Array.length_toList
          refine ⟨?_, ?_, HI2.out.2.grown hgr HI2.out.2.size (own_base HI2.out.1)⟩
          · rw [HE.out, Lib.byteCells_append]
            exact hown
          · rw [HE.out, List.length_append, List.length_append, ← HI.out.2.1, hxl]; rfl
        obtain ⟨A2, d2, rfl⟩ := own_slc HN.out.1
        have hm2 : m + 1 + x.size ≤ 20001 * (k + 1) := by rw [HN.out.2.1]; exact HBd.out
        clear hown hgr HI HI2 HE HJ
        generalize m + 1 + x.size = m2 at *
        go_wp2_with fail
        go_roundw
        case rel => exact ⟨k + 1, m2, by omega, by go_num, ⟨A2, d2, rfl⟩, hm2, HN⟩
        case measure => simp [intOf]; omega
    · have hkn : k = l.length := by omega
      have hlf : decide ((k : Int) < (l.length : Int)) = false := decide_eq_false (by omega)
      have hI := HI.out
      rw [hkn, List.take_length] at hI
      have HB := Lib.hid hI.2.2
      have HC : Hid ((convert 54 9 (.slice Ab m cb)).run Tryz.prog wr = .ok (.string ⟨(Tok.join (bytesL l)).toArray⟩) wr) := Lib.hid (by
        obtain ⟨h1, h2, -⟩ := hI
        rcases h1.2 with ⟨e, h0⟩ | ⟨g, cap, cur, e, hg, hh, hnc, _, hsz, htk⟩
        · have e2 : Tok.join (bytesL l) = [] := List.eq_nil_of_length_eq_zero (by omega)
          injection e with e1 e3 e4
          subst e1 e3 e4
          rw [e2]
          exact Lib.run_convert_nil_bytes wr _ _ 5 0 Tryz.underlying54 Tryz.underlying5 Tryz.underlying9
        · injection e with e1 e2 e3
          subst e1 e3
          rw [h2]
          rw [h2] at htk
          exact run_convert_bytes_back wr _ _ 5 ⟨g, 0, none⟩ cb (Tok.join (bytesL l)) Tryz.underlying54 Tryz.underlying5 Tryz.underlying9 (Lib.bytes_of_row hh (by simpa using htk)))
      have hcv := HC.out
      clear hI HI hkn
      go_wp2_with fail
      go_ret
      exact ⟨rfl, HB.out⟩
end Go.Proofs.YtphgbfgccagcbaaGreatDoor
namespace Go.Proofs.YtphgbfgccagcbaaGreatDoor
open Go.RowKit

set_option maxHeartbeats 4000000 in
set_option maxRecDepth 100000 in
theorem same_yes (A A' : Option Addr) (c c' : Nat) (l : List Tk) (w : World) (hr : TkReads w w.heap.size A l) (hr' : TkReads w w.heap.size A' l) (hn : l.length ≤ 1000000) :
    Calls Tryz.prog 10 #[.slice A l.length c, .slice A' l.length c'] w fun e w' => e = .returned (.bool true) ∧ Below w.heap.size w w' := by
  have HR := Lib.hid (And.intro hr hr')
  clear hr hr'
  go_enter Tryz.func10, Tryz.ntmps10
  go_wp2_with fail
  go_loopw [5] (fun i wr => ∃ (k n : Nat), k ≤ l.length ∧ i = .int .i64 k ∧ wr = w.drewN n) (fun i _ => l.length - (intOf i).toNat)
  case atStart => exact ⟨0, 0, Nat.zero_le _, rfl, rfl⟩
  case round =>
    obtain ⟨k, nd, hk, rfl, rfl⟩ := hrel
    by_cases hlt : k < l.length
    · have hlti : (k : Int) < (l.length : Int) := by omega
      obtain ⟨b, o, rfl, hb, c0, c1, c2⟩ := HR.out.1.at_ hlt
      obtain ⟨b', o', rfl, hb', d0, d1, d2⟩ := HR.out.2.at_ hlt
      generalize l[k] = x at *
      obtain ⟨xk, xs, xa⟩ := x
      simp only at c0 c1 c2 d0 d1 d2
      go_wp2_with fail
      go_quiet (fail)
      go_wp2_with fail
      go_roundw
      case rel => exact ⟨k + 1, _, by omega, by go_num, rfl⟩
      case measure => simp [intOf]; omega
    · have hlf : decide ((k : Int) < (l.length : Int)) = false := decide_eq_false (by omega)
      go_wp2_with fail
      go_ret
      exact ⟨rfl, below_drewN (Below.refl _ _) _⟩
end Go.Proofs.YtphgbfgccagcbaaGreatDoor
