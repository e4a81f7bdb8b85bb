/-
  CoP: CONTRACTS of scalar.Columns and scalar.Conjuncts.
  RPu: CONTRACT of the reference's Put, and of the law's ints.
  RCo: CONTRACTS of the reference's Columns, and of the law's ints.
  CjP: CONTRACT of scalar.Conjuncts.
  RCj: CONTRACTS of the law's ints, and of the reference's Conjuncts.
-/
import Derived.Test.YtcbcncaoabablaaGreatDoorSoI
import Derived.Test.YtcbcncaoabablaaGreatDoorGA25
import Derived.Test.YtcbcncaoabablaaGreatDoorGA17
import Derived.Deep.RegionHeld3
import Derived.BigQuiet
namespace Go.Proofs.YtcbcncaoabablaaGreatDoor
open Go.RowKit Go.Deep

/-- numbers are read, in blocks of P -/
def IRd (w : World) (P : Nat → Prop) (A : Option Addr) (l : List Int) : Prop := 0 < l.length → ∃ b o, A = some ⟨b, o, none⟩ ∧ P b ∧ ∀ (i : Nat) (x : Int), l[i]? = some x → w.cell? ⟨b, o + i, none⟩ = some (.int .i64 x)
theorem IRd.kept {w w' : World} {P P' : Nat → Prop} {A : Option Addr} {l : List Int} (h : IRd w P A l) (hw : ∀ b, P b → w'.heap[b]? = w.heap[b]?) (hP : ∀ b, P b → P' b) : IRd w' P' A l := fun h0 => by
  obtain ⟨b, o, rfl, hb, hc⟩ := h h0
  exact ⟨b, o, rfl, hP b hb, fun i x hx => (World.cell?_of_block (a := ⟨b, _, none⟩) (hw b hb)).trans (hc i x hx)⟩
theorem IRow.rd {w : World} {g cap : Nat} {zs : List Int} {P : Nat → Prop} (h : IRow w g cap zs) (hg : P g) : IRd w P (some ⟨g, 0, none⟩) zs := fun _ => ⟨g, 0, rfl, hg, fun i x hx => by
  have h1 := (h.holds i (by simpa using (List.getElem?_eq_some_iff.1 hx).1)).1
  obtain ⟨hi, rfl⟩ := List.getElem?_eq_some_iff.1 hx
  rw [h1]
  simp [hi]⟩
/-- what Columns gives -/
def colS (e : E) : List Int := if formE e = true then clmE e else []
/-- what Conjuncts gives -/
def cnjS (e : E) : List E := if formE e = true then conjE e else []
abbrev NwB (s t : Nat) : Nat → Prop := fun b => s ≤ b ∧ b < t
set_option maxHeartbeats 4000000 in
set_option maxRecDepth 100000 in
theorem ColumnsP_any (e : E) (A R : Option Addr) (c d : Nat) (w : World) (hG : GS w) (hE : EHas w e A R) :
    Calls Tryz.prog 8 #[e.val A c R d] w fun x w' => ∃ (A' : Option Addr) (c' : Nat), x = .returned (.tuple #[.slice A' (colS e).length c', .int .i64 (ckE e)]) ∧ IRd w' (NwB w.heap.size w'.heap.size) A' (colS e) ∧ Below w.heap.size w w' := by
  have HK : Hid (∀ g w1, Blk w1 g 29 #[.int .i64 e.op, .int .i64 e.n, .int .i64 e.m, .int .i64 e.kind, .int .i64 e.lit.k, .int .i64 e.lit.n, .string e.lit.s, .slice A e.args.length c, .slice R e.rels.length d] → Below w.heap.size w w1 →
      Calls Tryz.prog 29 #[.slice (some ⟨g, 0, none⟩) 1 1] w1 fun x w' => x = .returned (.int .i64 (ckE e)) ∧ Below w1.heap.size w1 w') := Lib.hid fun g w1 k hb => by
    have h := checkE_any (some ⟨g, 0, none⟩) 1 [e] w1 (by simp) (fun x hx => by rw [List.mem_singleton] at hx; subst hx; exact ⟨hE.n, hE.f⟩) (hG.thn hb) (LOk.one k k.lt (hE.below hb).a (hE.below hb).r)
    rw [cksE_one] at h
    exact h
  have HB := Lib.hid (Blk.new w 29 #[.int .i64 e.op, .int .i64 e.n, .int .i64 e.m, .int .i64 e.kind, .int .i64 e.lit.k, .int .i64 e.lit.n, .string e.lit.s, .slice A e.args.length c, .slice R e.rels.length d])
  rcases ckE_cases e with ⟨hq, hc⟩ | ⟨hq, hc⟩
  · have hf := formE_iff.1 hq
    have HC : Hid (colS e = clmE e ∧ Lib.compact (srtI (allE e)) = clmE e) := Lib.hid ⟨if_pos hq, cols_sorted (leafy_of 24 e hf.1)⟩
    have hal := Nat.le_trans (allE_len e) hf.2
    have HTh : Hid (∀ g w1, w.heap.size ≤ g → Below w.heap.size w w1 → CS w1 g (.slice none 0 0) [] → Calls Tryz.prog 30 #[e.val A c R d, .func (.func 31) #[] #[.pointer (some ⟨g, 0, none⟩)]] w1 fun x w' => x = .returned (.tuple #[]) ∧ ∃ v', CS w' g v' ([] ++ allE e) ∧ CK g (.slice none 0 0) v' w1 w') := Lib.hid fun g w1 hg hb hS =>
      through_any 100000 e A R c d g _ [] w1 (by omega) (Nat.le_refl _) hS (by simp; omega) (hE.a.kept (fun b h => hb.block b h) fun b h => Nat.lt_of_lt_of_le h hg)
    have hmf : ∀ (fn : Fn) (first cap : Array Value) (w : World), (Instr.makeFunc fn first cap).run Tryz.prog w = .ok (.func fn first cap) w := fun _ _ _ _ => rfl
    rw [hc] at HK ⊢
    clear hG hE hq hc hf
    rw [HC.out.1]
    unfold E.val at HTh ⊢
    go_enter Tryz.func8, Tryz.ntmps8
    go_wp2_with fail
    refine (HK.out _ _ (Blk.new' (by simp)) (al (al (Below.refl _ _) _) _)).mono ?_
    rintro x w2 ⟨rfl, hb2⟩
    have H2 : Hid (Below w.heap.size w (w2.alloc (.cells #[.slice none 0 0] 31)) ∧ Blk (w2.alloc (.cells #[.slice none 0 0] 31)) w.heap.size 29 #[.int .i64 e.op, .int .i64 e.n, .int .i64 e.m, .int .i64 e.kind, .int .i64 e.lit.k, .int .i64 e.lit.n, .string e.lit.s, .slice A e.args.length c, .slice R e.rels.length d] ∧ w.heap.size + 1 ≤ w2.heap.size) := Lib.hid ⟨al (thn (al (al (Below.refl w.heap.size w) _) _) hb2) _, ((HB.out.alloc _).below hb2 (by simp; omega)).alloc _, by have := hb2.size; simp at this; omega⟩
    have HT := Lib.hid (HTh.out w2.heap.size (w2.alloc (.cells #[.slice none 0 0] 31)) (by have := H2.out.2.2; omega) H2.out.1 ⟨Blk.new _ _ _, rfl, .inl ⟨rfl, rfl⟩⟩)
    clear hb2 HK HTh
    have hq := H2.out.2.1
    have x0 := hq.cell 0
    have x1 := hq.cell 1
    have x2 := hq.cell 2
    have x3 := hq.cell 3
    have x4 := hq.cell 4
    have x5 := hq.cell 5
    have x6 := hq.cell 6
    have x7 := hq.cell 7
    have x8 := hq.cell 8
    simp only [List.getElem?_toArray, List.getElem?_cons_succ, List.getElem?_cons_zero] at x0 x1 x2 x3 x4 x5 x6 x7 x8
    clear hq
    go_wp2_with fail
    refine HT.out.mono ?_
    rintro x w3 ⟨rfl, v3, hS3, hK3⟩
    have hBg := hS3.b
    have hsz2 := H2.out.2.2
    have HB3 : Hid (Below w.heap.size w w3) := Lib.hid ⟨hK3.os.trans H2.out.1.os, hK3.tape.trans H2.out.1.tape, hK3.output.trans H2.out.1.output, Nat.le_trans H2.out.1.size hK3.size, fun b hb => (hK3.block b (Nat.lt_of_lt_of_le hb H2.out.1.size) (by omega) (by simp [Value.ownBlock])).trans (H2.out.1.block b hb)⟩
    have y0 := hBg.cell 0
    simp only [List.getElem?_toArray, List.getElem?_cons_zero] at y0
    rw [List.nil_append] at hS3
    rcases hS3.r.2 with ⟨hv, h0⟩ | ⟨b, cap, cur, hv, hbb, _⟩
    · subst hv
      have hnil : clmE e = [] := by
        have h1 := HC.out.2
        rw [List.eq_nil_of_length_eq_zero h0] at h1
        rw [← h1]
        simp [Lib.compact, Lib.compactUpTo, srtI]
      have HN := Lib.hid hnil
      clear hS3 hK3 HT H2 HC hBg hnil h0
      go_wp2_with fail
      refine (sortI_none none 0 _).mono ?_
      rintro x w4 ⟨rfl, rfl⟩
      go_wp2_with fail
      refine (compactI_none none 0 _).mono ?_
      rintro x w5 ⟨rfl, rfl⟩
      go_wp2_with fail
      go_ret2
      exact ⟨none, 0, by rw [HN.out]; rfl, by rw [HN.out]; exact fun h => absurd h (Nat.lt_irrefl 0), HB3.out⟩
    · subst hv
      have HI := Lib.hid (IRow.of hS3.r)
      have HBg := Lib.hid hBg
      have hln : (allE e).length ≤ 1000000 := by omega
      have hne : b ≠ w2.heap.size := by omega
      have hbw : w.heap.size ≤ b := by omega
      have HSo := Lib.hid (sortI_any b cap (allE e) w3 HI.out hln)
      clear hS3 hK3 HT H2 hBg HI
      have hls : (srtI (allE e)).length = (allE e).length := List.length_mergeSort ..
      have HLs := Lib.hid hls
      have HCo : Hid (∀ w4, IRow w4 b cap (srtI (allE e)) → Calls Tryz.prog 33 #[.slice (some ⟨b, 0, none⟩) (allE e).length cap] w4 fun x w' => x = .returned (.slice (some ⟨b, 0, none⟩) (clmE e).length cap) ∧ IRow w' b cap (clmE e) ∧ w4.grownBy w' (some b)) := Lib.hid fun w4 h4 => by
        have r := compactI_any b cap (srtI (allE e)) w4 h4 (by rw [HLs.out]; omega)
        rw [HC.out.2, HLs.out] at r
        exact r
      clear hls HLs HC hal
      generalize (allE e).length = n at *
      go_wp2_with fail
      refine HSo.out.mono ?_
      rintro x w4 ⟨rfl, hI4, hg4⟩
      have H4 := Lib.hid (And.intro hI4 (And.intro (HB3.out.grown hg4 HB3.out.size (fun g h => by injection h with h; omega)) (HBg.out.grown hg4 (fun h => by injection h with h; omega))))
      clear hI4 hg4 HSo y0
      have y0 := H4.out.2.2.cell 0
      simp only [List.getElem?_toArray, List.getElem?_cons_zero] at y0
      have HC4 := Lib.hid (HCo.out w4 H4.out.1)
      clear HCo
      go_wp2_with fail
      refine HC4.out.mono ?_
      rintro x w5 ⟨rfl, hI5, hg5⟩
      have H5 := Lib.hid (And.intro (hI5.rd (P := NwB w.heap.size w5.heap.size) ⟨hbw, hI5.lt⟩) (H4.out.2.1.grown hg5 H4.out.2.1.size (fun g h => by injection h with h; omega)))
      clear hI5 hg5 HC4 y0
      go_wp2_with fail
      go_ret2
      exact ⟨_, _, rfl, H5.out.1, H5.out.2⟩
  · have hcb : (ckE e != 0) = true := by rw [hc]; rfl
    have HC : Hid (colS e = []) := Lib.hid (if_neg (by rw [hq]; decide))
    rw [HC.out]
    generalize ckE e = q at *
    clear hG hE hq hc
    unfold E.val
    go_enter Tryz.func8, Tryz.ntmps8
    go_wp2_with fail
    refine (HK.out _ _ (Blk.new' (by simp)) (al (al (Below.refl _ _) _) _)).mono ?_
    rintro x w2 ⟨rfl, hb2⟩
    have H2 := Lib.hid (thn (al (al (Below.refl w.heap.size w) _) _) hb2)
    clear hb2 HK
    go_wp2_with fail
    go_ret2
    exact ⟨none, 0, rfl, fun h => absurd h (Nat.lt_irrefl 0), H2.out⟩
end Go.Proofs.YtcbcncaoabablaaGreatDoor
namespace Go.Proofs.YtcbcncaoabablaaGreatDoor
open Go.RowKit Go.Deep

/-- a round of Put -/
def stP (n : Int) (s : List Int × Bool) (x : Int) : List Int × Bool :=
  if s.2 = false ∧ n ≤ x then (if x = n then (s.1 ++ [n], true) else (s.1 ++ [n] ++ [x], true)) else if x = n then s else (s.1 ++ [x], s.2)
def putR (l : List Int) (n : Int) : List Int := if (l.foldl (stP n) ([], false)).2 = true then (l.foldl (stP n) ([], false)).1 else (l.foldl (stP n) ([], false)).1 ++ [n]
theorem stP_done (n : Int) : ∀ (l acc : List Int), (∀ x ∈ l, n < x) → l.foldl (stP n) (acc, true) = (acc ++ l, true)
  | [], acc, _ => by simp
  | x :: l, acc, h => by
    have hx := h x (List.mem_cons_self ..)
    rw [List.foldl_cons, show stP n (acc, true) x = (acc ++ [x], true) by unfold stP; rw [if_neg (by simp), if_neg (by omega)], stP_done n l _ fun y hy => h y (List.mem_cons_of_mem _ hy), List.append_assoc]; rfl
theorem stP_open (n : Int) : ∀ (l acc : List Int), l.Pairwise (· < ·) → (if (l.foldl (stP n) (acc, false)).2 = true then (l.foldl (stP n) (acc, false)).1 else (l.foldl (stP n) (acc, false)).1 ++ [n]) = acc ++ putN l n
  | [], acc, _ => by simp [putN]
  | x :: l, acc, h => by
    rw [List.pairwise_cons] at h
    rw [List.foldl_cons, putN]
    by_cases h1 : n < x
    · rw [show stP n (acc, false) x = (acc ++ [n] ++ [x], true) by unfold stP; rw [if_pos ⟨rfl, by omega⟩, if_neg (by omega)], stP_done n l _ fun y hy => by have := h.1 y hy; omega, if_pos h1]
      simp
    · by_cases h2 : n = x
      · rw [show stP n (acc, false) x = (acc ++ [n], true) by unfold stP; rw [if_pos ⟨rfl, by omega⟩, if_pos h2.symm], stP_done n l _ fun y hy => by have := h.1 y hy; omega, if_neg h1, if_pos h2]
        simp [h2]
      · rw [show stP n (acc, false) x = (acc ++ [x], false) by unfold stP; rw [if_neg (by omega), if_neg (by omega)], if_neg h1, if_neg h2, stP_open n l _ h.2]
        simp
theorem putR_eq {l : List Int} (n : Int) (h : l.Pairwise (· < ·)) : putR l n = putN l n := by
  have := stP_open n l [] h
  simpa [putR] using this
theorem IRd.at_ {w : World} {P : Nat → Prop} {A : Option Addr} {l : List Int} (h : IRd w P A l) {i : Nat} (hi : i < l.length) : ∃ b o, A = some ⟨b, o, none⟩ ∧ P b ∧ w.cell? ⟨b, o + i, none⟩ = some (.int .i64 l[i]) := by
  obtain ⟨b, o, rfl, hb, hc⟩ := h (by omega)
  exact ⟨b, o, rfl, hb, hc i l[i] (List.getElem?_eq_getElem hi)⟩
set_option maxHeartbeats 4000000 in
set_option maxRecDepth 100000 in
theorem RPut_any (A : Option Addr) (c : Nat) (l : List Int) (n : Int) (w : World) (hA : IRd w (Lo w.heap.size) A l) (hn : l.length ≤ 100000) :
    Calls Tryz.prog 49 #[.slice A l.length c, .int .i64 n] w fun x w' => ∃ v, x = .returned v ∧ w'.ownsRow w.heap.size 3 1 v (putR l n).length (icells (putR l n)) ∧ Below w.heap.size w w' := by
  have HA := Lib.hid hA
  obtain ⟨i0, hi, hz0, hz1, hz2⟩ := info_parts infoInt
  have HTk : Hid (∀ k (h : k < l.length), (l.take (k + 1)).foldl (stP n) ([], false) = stP n ((l.take k).foldl (stP n) ([], false)) l[k]) := Lib.hid fun k h => by
    rw [List.take_succ_eq_append_getElem h, List.foldl_append]; rfl
  clear hA
  go_enter Tryz.func49, Tryz.ntmps49
  go_wp2_with fail
  go_loopw [5, 6, 7] (fun v dv iv wr => ∃ (k : Nat) (acc : List Int) (dn : Bool), k ≤ l.length ∧ iv = .int .i64 k ∧ dv = .bool dn ∧ acc.length ≤ 2 * k ∧ Hid ((l.take k).foldl (stP n) ([], false) = (acc, dn)) ∧ Hid (wr.ownsRow w.heap.size 3 1 v acc.length (icells acc) ∧ Below w.heap.size w wr)) (fun _ _ iv _ => l.length - (intOf iv).toNat)
  case atStart => exact ⟨0, [], false, Nat.zero_le _, rfl, rfl, Nat.le_refl _, Lib.hid rfl, Lib.hid ⟨⟨rfl, .inl ⟨rfl, rfl⟩⟩, Below.refl _ _⟩⟩
  case round =>
    obtain ⟨k, acc, dn, hk, rfl, rfl, hal, HF, HW⟩ := hrel
    by_cases hlt : k < l.length
    · have hlti : (k : Int) < (l.length : Int) := by omega
      have hk0 : (0 : Int) ≤ (k : Int) := by omega
      obtain ⟨b, o, rfl, hb, hc⟩ := HA.out.at_ hlt
      have hcr : wr.cell? ⟨b, o + k, none⟩ = some (.int .i64 l[k]) := (HW.out.2.cell (p := ⟨b, o + k, none⟩) hb).trans hc
      have HN : Hid (∀ acc' dn', stP n (acc, dn) l[k] = (acc', dn') → (l.take (k + 1)).foldl (stP n) ([], false) = (acc', dn')) := Lib.hid fun acc' dn' h => by rw [HTk.out k hlt, HF.out]; exact h
      have HH : Hid (∀ ob, (wr.alloc ob).cell? ⟨b, o + k, none⟩ = some (.int .i64 l[k])) := Lib.hid fun ob => ((al (HW.out.2) ob).cell (p := ⟨b, o + k, none⟩) hb).trans hc
      have hbw := HW.out.2.size
      clear hc HF
      generalize l[k] = x at *
      have HO := Lib.hid HW.out.1
      have HB := Lib.hid HW.out.2
      have HBl := Lib.hid hb
      clear HW hb
      cases dn
      · by_cases h1 : n ≤ x
        · by_cases h2 : x = n
          · have HM := Lib.hid (HN.out (acc ++ [n]) true (by unfold stP; rw [if_pos ⟨rfl, h1⟩, if_pos h2]))
            have e1 : decide (n ≤ x) = true := decide_eq_true h1
            have e2 : (x != n) = false := by simp [h2]
            clear HN h1
            go_wp2_with (at_builtin; refine wpList_append_any _ rfl (.tmp 24) (.tmp 26) 31 rfl w.heap.size 3 i0 (.int .i64 0) 1 8 Tryz.underlying31 hi hz0 hz1 hz2 rfl (by decide) _ _ _ rfl (own_below HO.out (al (Below.refl _ _) _)) (wr.heap.size + 1) _ 1 1 (icells [n]) rfl ?c0 ?c1 ?c2 ?c3 ?c4 ?_)
            case c0 => exact Reads.int (Blk.new' (g := wr.heap.size) (by simp)) (Nat.lt_succ_self _)
            case c1 => exact icells_one _
            case c2 => unfold maxLen; omega
            case c3 => omega
            case c4 => first | omega | (simp; omega)
            intro v1 w1 hown1 hgrow _
            have HN1 : Hid (w1.ownsRow w.heap.size 3 1 v1 (acc ++ [n]).length (icells (acc ++ [n])) ∧ Below w.heap.size w w1) := Lib.hid ⟨by rw [icells_append, List.length_append]; exact hown1, (al HB.out _).grown hgrow (by simp; omega) (own_base HO.out)⟩
            have y1 : w1.cell? ⟨b, o + k, none⟩ = some (.int .i64 x) := (HN1.out.2.cell (p := ⟨b, o + k, none⟩) HBl.out).trans ((HB.out.cell (p := ⟨b, o + k, none⟩) HBl.out).symm.trans hcr)
            clear hown1 hgrow
            go_wp2_with fail
            go_roundw
            case rel => exact ⟨k + 1, acc ++ [n], true, by omega, by go_num, rfl, by simp; omega, HM, HN1⟩
            case measure => simp [intOf]; omega
          · have HM := Lib.hid (HN.out (acc ++ [n] ++ [x]) true (by unfold stP; rw [if_pos ⟨rfl, h1⟩, if_neg h2]))
            have e1 : decide (n ≤ x) = true := decide_eq_true h1
            have e2 : (x != n) = true := by simp [h2]
            clear HN h1
            go_wp2_with (at_builtin; refine wpList_append_any _ rfl (.tmp 24) (.tmp 26) 31 rfl w.heap.size 3 i0 (.int .i64 0) 1 8 Tryz.underlying31 hi hz0 hz1 hz2 rfl (by decide) _ _ _ rfl (own_below HO.out (al (Below.refl _ _) _)) (wr.heap.size + 1) _ 1 1 (icells [n]) rfl ?c0 ?c1 ?c2 ?c3 ?c4 ?_)
            case c0 => exact Reads.int (Blk.new' (g := wr.heap.size) (by simp)) (Nat.lt_succ_self _)
            case c1 => exact icells_one _
            case c2 => unfold maxLen; omega
            case c3 => omega
            case c4 => first | omega | (simp; omega)
            intro v1 w1 hown1 hgrow _
            have HN1 : Hid (w1.ownsRow w.heap.size 3 1 v1 (acc ++ [n]).length (icells (acc ++ [n])) ∧ Below w.heap.size w w1) := Lib.hid ⟨by rw [icells_append, List.length_append]; exact hown1, (al HB.out _).grown hgrow (by simp; omega) (own_base HO.out)⟩
            have y1 : w1.cell? ⟨b, o + k, none⟩ = some (.int .i64 x) := (HN1.out.2.cell (p := ⟨b, o + k, none⟩) HBl.out).trans ((HB.out.cell (p := ⟨b, o + k, none⟩) HBl.out).symm.trans hcr)
            have hl1 : (acc ++ [n]).length ≤ 2 * k + 1 := by simp; omega
            have hbw1 := HN1.out.2.size
            clear hown1 hgrow
            generalize acc ++ [n] = acc1 at *
            go_wp2_with (at_builtin; refine wpList_append_any _ rfl (.tmp 34) (.tmp 39) 31 rfl w.heap.size 3 i0 (.int .i64 0) 1 8 Tryz.underlying31 hi hz0 hz1 hz2 rfl (by decide) _ _ _ rfl (own_below HN1.out.1 (al (Below.refl _ _) _)) (w1.heap.size + 1) _ 1 1 (icells [x]) rfl ?c0 ?c1 ?c2 ?c3 ?c4 ?_)
            case c0 => exact Reads.int (Blk.new' (g := w1.heap.size) (by simp)) (Nat.lt_succ_self _)
            case c1 => exact icells_one _
            case c2 => unfold maxLen; omega
            case c3 => omega
            case c4 => first | omega | (simp; omega)
            intro v2 w2 hown2 hgrow2 _
            have HN2 : Hid (w2.ownsRow w.heap.size 3 1 v2 (acc1 ++ [x]).length (icells (acc1 ++ [x])) ∧ Below w.heap.size w w2) := Lib.hid ⟨by rw [icells_append, List.length_append]; exact hown2, (al HN1.out.2 _).grown hgrow2 (by simp; omega) (own_base HN1.out.1)⟩
            clear hown2 hgrow2
            go_wp2_with fail
            go_roundw
            case rel => exact ⟨k + 1, acc1 ++ [x], true, by omega, by go_num, rfl, by simp; omega, HM, HN2⟩
            case measure => simp [intOf]; omega
        · have h2 : x ≠ n := by omega
          have HM := Lib.hid (HN.out (acc ++ [x]) false (by unfold stP; rw [if_neg (fun h => h1 h.2), if_neg h2]))
          have e1 : decide (n ≤ x) = false := decide_eq_false h1
          have e2 : (x != n) = true := by simp [h2]
          clear HN
          go_wp2_with (at_builtin; refine wpList_append_any _ rfl (.tmp 34) (.tmp 39) 31 rfl w.heap.size 3 i0 (.int .i64 0) 1 8 Tryz.underlying31 hi hz0 hz1 hz2 rfl (by decide) _ _ _ rfl (own_below HO.out (al (Below.refl _ _) _)) (wr.heap.size + 1) _ 1 1 (icells [x]) rfl ?c0 ?c1 ?c2 ?c3 ?c4 ?_)
          case c0 => exact Reads.int (Blk.new' (g := wr.heap.size) (by simp)) (Nat.lt_succ_self _)
          case c1 => exact icells_one _
          case c2 => unfold maxLen; omega
          case c3 => omega
          case c4 => first | omega | (simp; omega)
          intro v1 w1 hown1 hgrow _
          have HN1 : Hid (w1.ownsRow w.heap.size 3 1 v1 (acc ++ [x]).length (icells (acc ++ [x])) ∧ Below w.heap.size w w1) := Lib.hid ⟨by rw [icells_append, List.length_append]; exact hown1, (al HB.out _).grown hgrow (by simp; omega) (own_base HO.out)⟩
          clear hown1 hgrow
          go_wp2_with fail
          go_roundw
          case rel => exact ⟨k + 1, acc ++ [x], false, by omega, by go_num, rfl, by simp; omega, HM, HN1⟩
          case measure => simp [intOf]; omega
      · by_cases h2 : x = n
        · have HM := Lib.hid (HN.out acc true (by unfold stP; rw [if_neg (by simp), if_pos h2]))
          have e2 : (x != n) = false := by simp [h2]
          have HN1 := Lib.hid (And.intro HO.out HB.out)
          clear HN
          go_wp2_with fail
          go_roundw
          case rel => exact ⟨k + 1, acc, true, by omega, by go_num, rfl, by omega, HM, HN1⟩
          case measure => simp [intOf]; omega
        · have HM := Lib.hid (HN.out (acc ++ [x]) true (by unfold stP; rw [if_neg (by simp), if_neg h2]))
          have e2 : (x != n) = true := by simp [h2]
          clear HN
          go_wp2_with (at_builtin; refine wpList_append_any _ rfl (.tmp 34) (.tmp 39) 31 rfl w.heap.size 3 i0 (.int .i64 0) 1 8 Tryz.underlying31 hi hz0 hz1 hz2 rfl (by decide) _ _ _ rfl (own_below HO.out (al (Below.refl _ _) _)) (wr.heap.size + 1) _ 1 1 (icells [x]) rfl ?c0 ?c1 ?c2 ?c3 ?c4 ?_)
          case c0 => exact Reads.int (Blk.new' (g := wr.heap.size) (by simp)) (Nat.lt_succ_self _)
          case c1 => exact icells_one _
          case c2 => unfold maxLen; omega
          case c3 => omega
          case c4 => first | omega | (simp; omega)
          intro v1 w1 hown1 hgrow _
          have HN1 : Hid (w1.ownsRow w.heap.size 3 1 v1 (acc ++ [x]).length (icells (acc ++ [x])) ∧ Below w.heap.size w w1) := Lib.hid ⟨by rw [icells_append, List.length_append]; exact hown1, (al HB.out _).grown hgrow (by simp; omega) (own_base HO.out)⟩
          clear hown1 hgrow
          go_wp2_with fail
          go_roundw
          case rel => exact ⟨k + 1, acc ++ [x], true, by omega, by go_num, rfl, by simp; omega, HM, HN1⟩
          case measure => simp [intOf]; omega
    · have hlf : decide ((k : Int) < (l.length : Int)) = false := decide_eq_false (by omega)
      have HF2 : Hid (l.foldl (stP n) ([], false) = (acc, dn)) := Lib.hid (by
        have h := HF.out
        rwa [List.take_of_length_le (by omega)] at h)
      have hbw := HW.out.2.size
      cases dn
      · have HR : Hid (putR l n = acc ++ [n]) := Lib.hid (by unfold putR; rw [HF2.out]; rfl)
        have HO := Lib.hid HW.out.1
        have HB := Lib.hid HW.out.2
        go_wp2_with (at_builtin; refine wpList_append_any _ rfl (.tmp 43) (.tmp 45) 31 rfl w.heap.size 3 i0 (.int .i64 0) 1 8 Tryz.underlying31 hi hz0 hz1 hz2 rfl (by decide) _ _ _ rfl (own_below HO.out (al (Below.refl _ _) _)) (wr.heap.size + 1) _ 1 1 (icells [n]) rfl ?c0 ?c1 ?c2 ?c3 ?c4 ?_)
        case c0 => exact Reads.int (Blk.new' (g := wr.heap.size) (by simp)) (Nat.lt_succ_self _)
        case c1 => exact icells_one _
        case c2 => unfold maxLen; omega
        case c3 => omega
        case c4 => first | omega | (simp; omega)
        intro v1 w1 hown1 hgrow _
        have HN1 : Hid (w1.ownsRow w.heap.size 3 1 v1 (acc ++ [n]).length (icells (acc ++ [n])) ∧ Below w.heap.size w w1) := Lib.hid ⟨by rw [icells_append, List.length_append]; exact hown1, (al HB.out _).grown hgrow (by simp; omega) (own_base HO.out)⟩
        clear hown1 hgrow
        go_wp2_with fail
        go_ret
        exact ⟨_, rfl, by rw [HR.out]; exact HN1.out.1, HN1.out.2⟩
      · have HR : Hid (putR l n = acc) := Lib.hid (by unfold putR; rw [HF2.out]; rfl)
        go_wp2_with fail
        go_ret
        exact ⟨_, rfl, by rw [HR.out]; exact HW.out.1, HW.out.2⟩
end Go.Proofs.YtcbcncaoabablaaGreatDoor
namespace Go.Proofs.YtcbcncaoabablaaGreatDoor
open Go.RowKit Go.Deep

theorem clmE_of (e : E) : clmE e = if e.op = 1 then [e.n] else clmL [] e.args := by cases e; rw [clmE]; rfl
theorem putN_len (n : Int) : ∀ l : List Int, (putN l n).length ≤ l.length + 1
  | [] => by simp [putN]
  | x :: l => by
    have := putN_len n l
    rw [putN]
    split
    · simp
    · split
      · simp
      · simp; omega
theorem fold_len : ∀ (r l : List Int), (r.foldl putN l).length ≤ l.length + r.length
  | [], l => by simp
  | x :: r, l => by
    have h1 := fold_len r (putN l x)
    have h2 := putN_len x l
    rw [List.foldl_cons, List.length_cons]
    omega
mutual
theorem clmE_len : ∀ e : E, (clmE e).length ≤ nodesE e
  | .mk op n m k lit args rels => by
    have h1 := clmL_len args []
    have h2 := nodesE_args (.mk op n m k lit args rels)
    have h3 : (E.mk op n m k lit args rels).args = args := rfl
    rw [h3] at h2
    rw [clmE]
    split
    · simp; omega
    · simp at h1; omega
theorem clmL_len : ∀ (l : List E) (acc : List Int), (clmL acc l).length ≤ acc.length + nodesL l
  | [], acc => by simp [clmL]
  | e :: l, acc => by
    have h1 := clmE_len e
    have h2 := fold_len (clmE e) acc
    have h3 := clmL_len l ((clmE e).foldl putN acc)
    rw [clmL]
    simp only [nodesL]
    omega
end
theorem leafyL_take : ∀ (l : List E) (k : Nat), leafyL l = true → leafyL (l.take k) = true
  | [], k, _ => by simp [leafyL]
  | e :: l, 0, _ => by simp [leafyL]
  | e :: l, k + 1, h => by
    rw [leafyL, Bool.and_eq_true] at h
    rw [List.take_succ_cons, leafyL, h.1, leafyL_take l k h.2]; rfl
theorem own_weakerI {w : World} {base base' : Nat} {e : TypeId} {size n : Nat} {v : Value} {xs : List Value} (h : w.ownsRow base e size v n xs) (hb : base' ≤ base) : w.ownsRow base' e size v n xs :=
  ⟨h.1, h.2.imp id fun ⟨g, cap, cur, a, b, c⟩ => ⟨g, cap, cur, a, Nat.le_trans hb b, c⟩⟩
theorem IRd.own {w : World} {base : Nat} {v : Value} {l : List Int} (h : w.ownsRow base 3 1 v l.length (icells l)) : ∃ (A : Option Addr) (c : Nat), v = .slice A l.length c ∧ IRd w (NwB base w.heap.size) A l := by
  rcases h.2 with ⟨rfl, h0⟩ | ⟨g, cap, cur, rfl, hb, _⟩
  · exact ⟨none, 0, by rw [h0], fun h1 => absurd h1 (by omega)⟩
  · exact ⟨_, cap, rfl, (IRow.of h).rd ⟨hb, (IRow.of h).lt⟩⟩
set_option maxHeartbeats 4000000 in
set_option maxRecDepth 100000 in
theorem RColumns_any : ∀ (k q : Nat) (e : E) (A R : Option Addr) (c d : Nat) (w : World), nodesE e < k → k ≤ 10000 → shapedE q e = true → LOk w (Lo w.heap.size) A e.args →
    Calls Tryz.prog 18 #[e.val A c R d] w fun x w' => ∃ (A' : Option Addr) (c' : Nat), x = .returned (.slice A' (clmE e).length c') ∧ IRd w' (NwB w.heap.size w'.heap.size) A' (clmE e) ∧ Below w.heap.size w w' := by
  intro k
  induction k with
  | zero => intro q e A R c d w h; exact absurd h (Nat.not_lt_zero _)
  | succ k ih =>
    intro q e A R c d w hk hk1 hsh hA
    obtain ⟨q, rfl⟩ : ∃ q', q = q' + 1 := by
      cases q with
      | zero => rw [shapedE_zero] at hsh; cases hsh
      | succ q => exact ⟨q, rfl⟩
    have hlf := leafy_of (q + 1) e hsh
    rw [shapedE_succ, Bool.and_eq_true] at hsh
    have hnE := nodesE_args e
    have hln := nodesL_len e.args
    have hce := clmE_of e
    by_cases ho : e.op = 1
    · rw [if_pos ho] at hce
      rw [hce]
      have HP : Hid (Below w.heap.size w ((w.alloc (.cells #[.int .i64 1, .int .i64 e.n, .int .i64 e.m, .int .i64 e.kind, .int .i64 e.lit.k, .int .i64 e.lit.n, .string e.lit.s, .slice A e.args.length c, .slice R e.rels.length d] 29)).alloc (.cells #[.int .i64 e.n] 3)) ∧ IRd ((w.alloc (.cells #[.int .i64 1, .int .i64 e.n, .int .i64 e.m, .int .i64 e.kind, .int .i64 e.lit.k, .int .i64 e.lit.n, .string e.lit.s, .slice A e.args.length c, .slice R e.rels.length d] 29)).alloc (.cells #[.int .i64 e.n] 3)) (NwB w.heap.size ((w.alloc (.cells #[.int .i64 1, .int .i64 e.n, .int .i64 e.m, .int .i64 e.kind, .int .i64 e.lit.k, .int .i64 e.lit.n, .string e.lit.s, .slice A e.args.length c, .slice R e.rels.length d] 29)).alloc (.cells #[.int .i64 e.n] 3)).heap.size) (some ⟨w.heap.size + 1, 0, none⟩) [e.n]) := Lib.hid ⟨al (al (Below.refl _ _) _) _, fun _ => ⟨w.heap.size + 1, 0, rfl, ⟨by omega, by simp⟩, fun i x hx => by
        match i, hx with
        | 0, hx =>
          simp at hx; subst hx
          exact (Blk.new' (g := w.heap.size + 1) (w := (w.alloc (.cells #[.int .i64 1, .int .i64 e.n, .int .i64 e.m, .int .i64 e.kind, .int .i64 e.lit.k, .int .i64 e.lit.n, .string e.lit.s, .slice A e.args.length c, .slice R e.rels.length d] 29))) (t := 3) (cs := #[.int .i64 e.n]) (by simp)).cell 0⟩⟩
      clear ih hA hsh hce hlf
      unfold E.val
      rw [ho]
      go_enter Tryz.func18, Tryz.ntmps18
      go_wp2_with fail
      go_ret
      exact ⟨_, _, rfl, HP.out.2, HP.out.1⟩
    · rw [if_neg ho] at hce
      rw [hce]
      have hob : (e.op == 1) = false := beq_eq_false_iff_ne.2 ho
      have hlfa : leafyL e.args = true := leafyL_of q e.args hsh.2
      have HA := Lib.hid (And.intro hA (And.intro hsh.2 hlfa))
      have IH := Lib.hid ih
      have HB : Hid (Below w.heap.size w (w.alloc (.cells #[.int .i64 e.op, .int .i64 e.n, .int .i64 e.m, .int .i64 e.kind, .int .i64 e.lit.k, .int .i64 e.lit.n, .string e.lit.s, .slice A e.args.length c, .slice R e.rels.length d] 29)) ∧ Blk (w.alloc (.cells #[.int .i64 e.op, .int .i64 e.n, .int .i64 e.m, .int .i64 e.kind, .int .i64 e.lit.k, .int .i64 e.lit.n, .string e.lit.s, .slice A e.args.length c, .slice R e.rels.length d] 29)) w.heap.size 29 #[.int .i64 e.op, .int .i64 e.n, .int .i64 e.m, .int .i64 e.kind, .int .i64 e.lit.k, .int .i64 e.lit.n, .string e.lit.s, .slice A e.args.length c, .slice R e.rels.length d]) := Lib.hid ⟨al (Below.refl _ _) _, Blk.new w _ _⟩
      clear ih hA hsh hce hlf hlfa ho
      unfold E.val
      go_enter Tryz.func18, Tryz.ntmps18
      go_wp2_with fail
      go_loopw [3, 4] (fun v iv wr => ∃ (j : Nat) (acc : List Int), j ≤ e.args.length ∧ iv = .int .i64 j ∧ Hid (acc = clmL [] (e.args.take j)) ∧ Hid (wr.ownsRow (w.heap.size + 1) 3 1 v acc.length (icells acc) ∧ Below w.heap.size w wr ∧ Blk wr w.heap.size 29 #[.int .i64 e.op, .int .i64 e.n, .int .i64 e.m, .int .i64 e.kind, .int .i64 e.lit.k, .int .i64 e.lit.n, .string e.lit.s, .slice A e.args.length c, .slice R e.rels.length d])) (fun _ iv _ => e.args.length - (intOf iv).toNat)
      case atStart => exact ⟨0, [], Nat.zero_le _, rfl, Lib.hid (by rw [List.take_zero, clmL]), Lib.hid ⟨⟨rfl, .inl ⟨rfl, rfl⟩⟩, HB.out.1, HB.out.2⟩⟩
      case round =>
        obtain ⟨j, acc, hj, rfl, HC, HW⟩ := hrel
        have hq := HW.out.2.2
        have y7 := hq.cell 7
        simp only [List.getElem?_toArray, List.getElem?_cons_succ, List.getElem?_cons_zero] at y7
        clear hq
        by_cases hlt : j < e.args.length
        · have hlti : (j : Int) < (e.args.length : Int) := by omega
          have hj0 : (0 : Int) ≤ (j : Int) := by omega
          obtain ⟨b, o, hAe, hb, he⟩ := (HA.out.1.below HW.out.2.1 HW.out.2.1.size).at_ hlt
          rw [hAe] at y7
          have HAe := Lib.hid hAe
          clear hAe
          obtain ⟨z0, z1, z2, z3, z4, z5, z6, ⟨A1, c1, z7, z8⟩, R1, d1, z9, z10⟩ := EOk.mk_.1 he
          have x0 : wr.cell? ⟨b, o + j * 9, none⟩ = some (.int .i64 e.args[j].op) := z0
          have x1 : wr.cell? ⟨b, o + j * 9 + 1, none⟩ = some (.int .i64 e.args[j].n) := z1
          have x2 : wr.cell? ⟨b, o + j * 9 + 2, none⟩ = some (.int .i64 e.args[j].m) := z2
          have x3 : wr.cell? ⟨b, o + j * 9 + 3, none⟩ = some (.int .i64 e.args[j].kind) := z3
          have x4 : wr.cell? ⟨b, o + j * 9 + 4, none⟩ = some (.int .i64 e.args[j].lit.k) := z4
          have x5 : wr.cell? ⟨b, o + j * 9 + 5, none⟩ = some (.int .i64 e.args[j].lit.n) := z5
          have x6 : wr.cell? ⟨b, o + j * 9 + 6, none⟩ = some (.string e.args[j].lit.s) := z6
          have x7 : wr.cell? ⟨b, o + j * 9 + 7, none⟩ = some (.slice A1 e.args[j].args.length c1) := z7
          have x8 : wr.cell? ⟨b, o + j * 9 + 8, none⟩ = some (.slice R1 e.args[j].rels.length d1) := z9
          have hnm := nodesL_mem (List.getElem_mem hlt)
          have HK := Lib.hid (IH.out q e.args[j] A1 R1 c1 d1 wr (by omega) (by omega) (shapedL_mem HA.out.2.1 _ (List.getElem_mem hlt)) z8)
          have hcl := clmE_len e.args[j]
          have hacc : acc.length + (clmE e.args[j]).length ≤ 10000 := by
            have h1 := clmL_len (e.args.take j) []
            rw [← HC.out] at h1
            have h2 := nodesL_split e.args j hlt
            simp at h1
            omega
          have HR : Hid (acc.Pairwise (· < ·)) := Lib.hid (by rw [HC.out]; exact (clmL_spec _ [] (leafyL_take _ _ HA.out.2.2) List.Pairwise.nil).1)
          have HTk : Hid ((clmE e.args[j]).foldl putN acc = clmL [] (e.args.take (j + 1))) := Lib.hid (by rw [clmL_take e.args [] j hlt, HC.out])
          clear z0 z1 z2 z3 z4 z5 z6 z7 z8 z9 z10 he hnm hcl HC
          generalize clmE e.args[j] = ms at *
          generalize e.args[j] = ei at *
          unfold E.val at HK
          go_wp2_with fail
          refine HK.out.mono ?_
          rintro x w3 ⟨A5, c5, rfl, hI, hb3⟩
          have H3 : Hid (w3.ownsRow (w.heap.size + 1) 3 1 u3 acc.length (icells acc) ∧ Below w.heap.size w w3 ∧ Blk w3 w.heap.size 29 #[.int .i64 e.op, .int .i64 e.n, .int .i64 e.m, .int .i64 e.kind, .int .i64 e.lit.k, .int .i64 e.lit.n, .string e.lit.s, .slice A e.args.length c, .slice R e.rels.length d] ∧ IRd w3 (Lo w3.heap.size) A5 ms) := Lib.hid ⟨own_below HW.out.1 hb3, thn HW.out.2.1 hb3, HW.out.2.2.below hb3 HW.out.2.2.lt, hI.kept (fun _ _ => rfl) fun b hb => hb.2⟩
          clear hI hb3 HW HK x0 x1 x2 x3 x4 x5 x6 x7 x8 y7
          go_wp2_with fail
          go_loopw [3, 6] (fun v iv wr2 => ∃ (t : Nat) (acc2 : List Int), t ≤ ms.length ∧ iv = .int .i64 t ∧ acc2.length ≤ acc.length + t ∧ Hid (acc2 = (ms.take t).foldl putN acc) ∧ Hid (wr2.ownsRow (w.heap.size + 1) 3 1 v acc2.length (icells acc2) ∧ Below w.heap.size w wr2 ∧ Blk wr2 w.heap.size 29 #[.int .i64 e.op, .int .i64 e.n, .int .i64 e.m, .int .i64 e.kind, .int .i64 e.lit.k, .int .i64 e.lit.n, .string e.lit.s, .slice A e.args.length c, .slice R e.rels.length d] ∧ Below w3.heap.size w3 wr2)) (fun _ iv _ => ms.length - (intOf iv).toNat)
          case atStart => exact ⟨0, acc, Nat.zero_le _, rfl, Nat.le_refl _, Lib.hid (by rw [List.take_zero]; rfl), Lib.hid ⟨H3.out.1, H3.out.2.1, H3.out.2.2.1, Below.refl _ _⟩⟩
          case round =>
            obtain ⟨t, acc2, ht, rfl, hal, HC2, HW2⟩ := hrel
            by_cases htl : t < ms.length
            · have htli : (t : Int) < (ms.length : Int) := by omega
              have ht0 : (0 : Int) ≤ (t : Int) := by omega
              obtain ⟨b5, o5, rfl, hb5, hc5⟩ := H3.out.2.2.2.at_ htl
              have hc : wr.cell? ⟨b5, o5 + t, none⟩ = some (.int .i64 ms[t]) := (HW2.out.2.2.2.cell (p := ⟨b5, o5 + t, none⟩) hb5).trans hc5
              obtain ⟨A6, c6, hv6, hI6⟩ := IRd.own HW2.out.1
              have HTk2 : Hid (putN acc2 ms[t] = (ms.take (t + 1)).foldl putN acc) := Lib.hid (by rw [List.take_succ_eq_append_getElem htl, List.foldl_append, ← HC2.out]; rfl)
              have HR2 : Hid (putR acc2 ms[t] = putN acc2 ms[t]) := Lib.hid (putR_eq _ (by rw [HC2.out]; exact fold_rises _ _ HR.out))
              have HPu := Lib.hid (RPut_any A6 c6 acc2 ms[t] _ (hI6.kept (fun _ _ => rfl) fun b hb => hb.2) (by omega))
              have hpl := putN_len ms[t] acc2
              have hbs := HW2.out.2.1.size
              have hw1 : w.heap.size + 1 ≤ wr.heap.size := HW2.out.2.2.1.lt
              subst hv6
              rw [HR2.out] at HPu
              clear hc5 hI6 HR2
              generalize ms[t] = x at *
              go_wp2_with fail
              refine HPu.out.mono ?_
              rintro y w7 ⟨v7, rfl, ho7, hb7⟩
              have HN : Hid (w7.ownsRow (w.heap.size + 1) 3 1 v7 (putN acc2 x).length (icells (putN acc2 x)) ∧ Below w.heap.size w w7 ∧ Blk w7 w.heap.size 29 #[.int .i64 e.op, .int .i64 e.n, .int .i64 e.m, .int .i64 e.kind, .int .i64 e.lit.k, .int .i64 e.lit.n, .string e.lit.s, .slice A e.args.length c, .slice R e.rels.length d] ∧ Below w3.heap.size w3 w7) := Lib.hid ⟨own_weakerI ho7 hw1, thn HW2.out.2.1 hb7, HW2.out.2.2.1.below hb7 HW2.out.2.2.1.lt, thn HW2.out.2.2.2 hb7⟩
              have HTn := Lib.hid HTk2.out
              clear ho7 hb7 HPu
              go_wp2_with fail
              go_roundw
              case rel => exact ⟨t + 1, putN acc2 x, by omega, by go_num, by omega, HTn, HN⟩
              case measure => simp [intOf]; omega
            · have htf : decide ((t : Int) < (ms.length : Int)) = false := decide_eq_false (by omega)
              have HTe : Hid (acc2 = clmL [] (e.args.take (j + 1))) := Lib.hid (by rw [HC2.out, List.take_of_length_le (by omega), HTk.out])
              have HWe : Hid (wr.ownsRow (w.heap.size + 1) 3 1 u3 acc2.length (icells acc2) ∧ Below w.heap.size w wr ∧ Blk wr w.heap.size 29 #[.int .i64 e.op, .int .i64 e.n, .int .i64 e.m, .int .i64 e.kind, .int .i64 e.lit.k, .int .i64 e.lit.n, .string e.lit.s, .slice A e.args.length c, .slice R e.rels.length d]) := Lib.hid ⟨HW2.out.1, HW2.out.2.1, HW2.out.2.2.1⟩
              go_wp2_with fail
              go_roundw
              case rel => exact ⟨j + 1, acc2, by omega, by go_num, HTe, HWe⟩
              case measure => simp [intOf]; omega
        · have hlf : decide ((j : Int) < (e.args.length : Int)) = false := decide_eq_false (by omega)
          obtain ⟨A6, c6, hv6, hI6⟩ := IRd.own HW.out.1
          subst hv6
          have HF : Hid (acc = clmL [] e.args) := Lib.hid (by rw [HC.out, List.take_of_length_le (by omega)])
          have HI := Lib.hid (And.intro (hI6.kept (P' := NwB w.heap.size wr.heap.size) (fun _ _ => rfl) fun b hb => ⟨by have := hb.1; omega, hb.2⟩) HW.out.2.1)
          clear hI6
          go_wp2_with fail
          go_ret
          exact ⟨A6, c6, by rw [← HF.out]; rfl, by rw [← HF.out]; exact HI.out.1, HI.out.2⟩
end Go.Proofs.YtcbcncaoabablaaGreatDoor
namespace Go.Proofs.YtcbcncaoabablaaGreatDoor
open Go.RowKit Go.Deep

set_option maxHeartbeats 4000000 in
set_option maxRecDepth 100000 in
theorem ConjunctsP_any (e : E) (A R : Option Addr) (c d : Nat) (w : World) (hG : GS w) (hE : EHas w e A R) :
    Calls Tryz.prog 9 #[e.val A c R d] w fun x w' => ∃ (A' : Option Addr) (c' : Nat), x = .returned (.tuple #[.slice A' (cnjS e).length c', .int .i64 (ckE e)]) ∧ LOk w' (NwB w.heap.size w'.heap.size) A' (cnjS e) ∧ Below w.heap.size w w' := by
  have HK : Hid (∀ g w1, Blk w1 g 29 #[.int .i64 e.op, .int .i64 e.n, .int .i64 e.m, .int .i64 e.kind, .int .i64 e.lit.k, .int .i64 e.lit.n, .string e.lit.s, .slice A e.args.length c, .slice R e.rels.length d] → Below w.heap.size w w1 →
      Calls Tryz.prog 29 #[.slice (some ⟨g, 0, none⟩) 1 1] w1 fun x w' => x = .returned (.int .i64 (ckE e)) ∧ Below w1.heap.size w1 w') := Lib.hid fun g w1 k hb => by
    have h := checkE_any (some ⟨g, 0, none⟩) 1 [e] w1 (by simp) (fun x hx => by rw [List.mem_singleton] at hx; subst hx; exact ⟨hE.n, hE.f⟩) (hG.thn hb) (LOk.one k k.lt (hE.below hb).a (hE.below hb).r)
    rw [cksE_one] at h
    exact h
  have HB := Lib.hid (Blk.new w 29 #[.int .i64 e.op, .int .i64 e.n, .int .i64 e.m, .int .i64 e.kind, .int .i64 e.lit.k, .int .i64 e.lit.n, .string e.lit.s, .slice A e.args.length c, .slice R e.rels.length d])
  rcases ckE_cases e with ⟨hq, hc⟩ | ⟨hq, hc⟩
  · have hf := formE_iff.1 hq
    have HC : Hid (cnjS e = conjE e) := Lib.hid (if_pos hq)
    have HCj : Hid (∀ w1, Below w.heap.size w w1 → Calls Tryz.prog 34 #[e.val A c R d] w1 fun x w' => ∃ (A' : Option Addr) (c' : Nat), x = .returned (.slice A' (conjE e).length c') ∧ LOk w' (In2 0 w1.heap.size w'.heap.size) A' (conjE e) ∧ Below w1.heap.size w1 w') := Lib.hid fun w1 hb =>
      conjuncts_any 10000 24 e A R c d w1 (by omega) (Nat.le_refl _) hf.1 (hE.below hb).a
    rw [hc] at HK ⊢
    clear hG hE hq hc hf
    rw [HC.out]
    unfold E.val at HCj ⊢
    go_enter Tryz.func9, Tryz.ntmps9
    go_wp2_with fail
    refine (HK.out _ _ (Blk.new' (by simp)) (al (al (Below.refl _ _) _) _)).mono ?_
    rintro x w2 ⟨rfl, hb2⟩
    have H2 : Hid (Below w.heap.size w w2 ∧ Blk w2 w.heap.size 29 #[.int .i64 e.op, .int .i64 e.n, .int .i64 e.m, .int .i64 e.kind, .int .i64 e.lit.k, .int .i64 e.lit.n, .string e.lit.s, .slice A e.args.length c, .slice R e.rels.length d]) := Lib.hid ⟨thn (al (al (Below.refl w.heap.size w) _) _) hb2, (HB.out.alloc _).below hb2 (by simp; omega)⟩
    have HCa := Lib.hid (HCj.out w2 H2.out.1)
    clear hb2 HK HCj
    have hq := H2.out.2
    have x0 := hq.cell 0
    have x1 := hq.cell 1
    have x2 := hq.cell 2
    have x3 := hq.cell 3
    have x4 := hq.cell 4
    have x5 := hq.cell 5
    have x6 := hq.cell 6
    have x7 := hq.cell 7
    have x8 := hq.cell 8
    simp only [List.getElem?_toArray, List.getElem?_cons_succ, List.getElem?_cons_zero] at x0 x1 x2 x3 x4 x5 x6 x7 x8
    clear hq
    go_wp2_with fail
    refine HCa.out.mono ?_
    rintro x w3 ⟨A3, c3, rfl, hL3, hb3⟩
    have H3 := Lib.hid (And.intro (hL3.kept (P' := NwB w.heap.size w3.heap.size) (fun _ _ => rfl) fun b hb => ⟨by have := hb.1; have := H2.out.1.size; omega, hb.2⟩) (thn H2.out.1 hb3))
    clear hL3 hb3 H2 HCa x0 x1 x2 x3 x4 x5 x6 x7 x8
    go_wp2_with fail
    go_ret2
    exact ⟨_, _, rfl, H3.out.1, H3.out.2⟩
  · have hcb : (ckE e != 0) = true := by rw [hc]; rfl
    have HC : Hid (cnjS e = []) := Lib.hid (if_neg (by rw [hq]; decide))
    rw [HC.out]
    generalize ckE e = q at *
    clear hG hE hq hc
    unfold E.val
    go_enter Tryz.func9, Tryz.ntmps9
    go_wp2_with fail
    refine (HK.out _ _ (Blk.new' (by simp)) (al (al (Below.refl _ _) _) _)).mono ?_
    rintro x w2 ⟨rfl, hb2⟩
    have H2 := Lib.hid (thn (al (al (Below.refl w.heap.size w) _) _) hb2)
    clear hb2 HK
    go_wp2_with fail
    go_ret2
    exact ⟨none, 0, rfl, LOk.nil_, H2.out⟩
end Go.Proofs.YtcbcncaoabablaaGreatDoor
namespace Go.Proofs.YtcbcncaoabablaaGreatDoor
open Go.RowKit Go.Deep

set_option maxHeartbeats 2000000 in
set_option maxRecDepth 100000 in
theorem ints_same (A B : Option Addr) (c d : Nat) (l : List Int) (w : World) (hA : IRd w (Lo w.heap.size) A l) (hB : IRd w (Lo w.heap.size) B l) (hn : l.length ≤ 100000) :
    Calls Tryz.prog 17 #[.slice A l.length c, .slice B l.length d] w fun x w' => x = .returned (.bool true) ∧ Below w.heap.size w w' := by
  have HA := Lib.hid (And.intro hA hB)
  have hlb : ((l.length : Int) != (l.length : Int)) = false := by simp
  clear hA hB
  go_enter Tryz.func17, Tryz.ntmps17
  go_wp2_with fail
  go_loopw [5] (fun iv wr => ∃ k : Nat, k ≤ l.length ∧ iv = .int .i64 k ∧ Hid (Below w.heap.size w wr)) (fun iv _ => l.length - (intOf iv).toNat)
  case atStart => exact ⟨0, Nat.zero_le _, rfl, Below.refl _ _⟩
  case round =>
    obtain ⟨k, hk, rfl, HB⟩ := hrel
    by_cases hlt : k < l.length
    · have hlti : (k : Int) < (l.length : Int) := by omega
      have hk0 : (0 : Int) ≤ (k : Int) := by omega
      obtain ⟨b, o, rfl, hb, c0⟩ := HA.out.1.at_ hlt
      obtain ⟨b2, o2, rfl, hb2, c1⟩ := HA.out.2.at_ hlt
      have y0 : wr.cell? ⟨b, o + k, none⟩ = some (.int .i64 l[k]) := (HB.out.cell (p := ⟨b, o + k, none⟩) hb).trans c0
      have y1 : wr.cell? ⟨b2, o2 + k, none⟩ = some (.int .i64 l[k]) := (HB.out.cell (p := ⟨b2, o2 + k, none⟩) hb2).trans c1
      have hne : (l[k] != l[k]) = false := by simp
      clear c0 c1
      generalize l[k] = x at *
      go_wp2_with fail
      go_quiet (fail)
      go_wp2_with fail
      go_roundw
      case rel => exact ⟨k + 1, by omega, by go_num, below_drewN HB.out _⟩
      case measure => simp [intOf]; omega
    · have hlf : decide ((k : Int) < (l.length : Int)) = false := decide_eq_false (by omega)
      go_wp2_with fail
      go_ret
      exact ⟨rfl, HB.out⟩
theorem HReads.own {w : World} {base : Nat} {v : Value} {hs : List HE} (h : w.ownsRow base 29 9 v hs.length (hcells hs)) : ∃ (A : Option Addr) (c : Nat), v = .slice A hs.length c ∧ ∀ {P : Nat → Prop}, (∀ b, base ≤ b → b < w.heap.size → P b) → HReads w P A hs := by
  rcases h.2 with ⟨rfl, h0⟩ | ⟨g, cap, cur, rfl, hbg, hh, hnc, hcm, hcs, htk⟩
  · exact ⟨none, 0, by rw [h0], fun _ h1 => absurd h1 (by omega)⟩
  · refine ⟨_, cap, rfl, fun hP _ => ⟨g, 0, rfl, hP g hbg (Blk.lt (t := 29) (cs := cur) hh), fun i x hi j hj => ?_⟩⟩
    have hil : i < hs.length := (List.getElem?_eq_some_iff.1 hi).1
    rw [Nat.zero_add, cell_of_row w g (i * 9 + j) cur 29 (0, 0) hh, ← hcells_at hs i j x hi hj, ← htk, List.getElem?_take, if_pos (by omega)]
    simp
theorem HReads.lok {w : World} {P : Nat → Prop} {A : Option Addr} {hs : List HE} (h : HReads w P A hs) (ho : ∀ x ∈ hs, x.ok w P) : LOk w P A (hs.map HE.e) := by
  by_cases h0 : 0 < hs.length
  · obtain ⟨b, o, rfl, hb, hc⟩ := h h0
    refine LOk.of hb fun i hi => ?_
    rw [List.length_map] at hi
    simp only [List.getElem_map]
    exact (HE.reads (ho hs[i] (List.getElem_mem hi))).ext fun j hj => hc i hs[i] (List.getElem?_eq_getElem hi) j hj
  · have : hs = [] := List.eq_nil_of_length_eq_zero (by omega)
    subst this
    exact LOk.nil_
theorem conjL_take_len (l : List E) (j : Nat) (h : j < l.length) : (conjL (l.take j)).length + (conjE l[j]).length ≤ nodesL l := by
  have h1 := conjL_len (l.take j)
  have h2 := conjE_len l[j]
  have h3 := nodesL_split l j h
  omega
set_option maxHeartbeats 4000000 in
set_option maxRecDepth 100000 in
theorem RConj_any (B : Nat) : ∀ (k : Nat) (e : E) (A R : Option Addr) (c d : Nat) (w : World), nodesE e < k → k ≤ 10000 → B ≤ w.heap.size → LOk w (Lo B) A e.args → ROk w (Lo B) R e.rels →
    Calls Tryz.prog 14 #[e.val A c R d] w fun x w' => ∃ (A' : Option Addr) (c' : Nat) (hs : List HE), hs.map HE.e = conjE e ∧ x = .returned (.slice A' hs.length c') ∧ HReads w' (NwB w.heap.size w'.heap.size) A' hs ∧ (∀ h ∈ hs, h.ok w' (Lo B)) ∧ Below w.heap.size w w' := by
  intro k
  induction k with
  | zero => intro e A R c d w h; exact absurd h (Nat.not_lt_zero _)
  | succ k ih =>
    intro e A R c d w hk hk1 hBw hA hR
    have hnE := nodesE_args e
    have hln := nodesL_len e.args
    have hce := conjE_of e
    by_cases ho : e.op = 19
    · rw [if_pos ho, ← conjL_flat] at hce
      rw [hce]
      have HA := Lib.hid hA
      have IH := Lib.hid ih
      have HB : Hid (Below w.heap.size w (w.alloc (.cells #[.int .i64 e.op, .int .i64 e.n, .int .i64 e.m, .int .i64 e.kind, .int .i64 e.lit.k, .int .i64 e.lit.n, .string e.lit.s, .slice A e.args.length c, .slice R e.rels.length d] 29)) ∧ Blk (w.alloc (.cells #[.int .i64 e.op, .int .i64 e.n, .int .i64 e.m, .int .i64 e.kind, .int .i64 e.lit.k, .int .i64 e.lit.n, .string e.lit.s, .slice A e.args.length c, .slice R e.rels.length d] 29)) w.heap.size 29 #[.int .i64 e.op, .int .i64 e.n, .int .i64 e.m, .int .i64 e.kind, .int .i64 e.lit.k, .int .i64 e.lit.n, .string e.lit.s, .slice A e.args.length c, .slice R e.rels.length d]) := Lib.hid ⟨al (Below.refl _ _) _, Blk.new w _ _⟩
      have HO0 := Lib.hid ho
      obtain ⟨i0, hi, hz0, hz1, hz2⟩ := info_parts infoE
      clear ih hA hR hce
      rw [ho] at HB
      unfold E.val
      rw [ho]
      clear ho
      go_enter Tryz.func14, Tryz.ntmps14
      go_wp2_with fail
      go_loopw [3, 4] (fun v iv wr => ∃ (j : Nat) (hs : List HE), j ≤ e.args.length ∧ iv = .int .i64 j ∧ hs.length ≤ 10000 ∧ Hid (wr.ownsRow (w.heap.size + 1) 29 9 v hs.length (hcells hs)) ∧ Hid (hs.map HE.e = conjL (e.args.take j) ∧ (∀ x ∈ hs, x.ok wr (Lo B)) ∧ Below w.heap.size w wr ∧ Blk wr w.heap.size 29 #[.int .i64 19, .int .i64 e.n, .int .i64 e.m, .int .i64 e.kind, .int .i64 e.lit.k, .int .i64 e.lit.n, .string e.lit.s, .slice A e.args.length c, .slice R e.rels.length d])) (fun _ iv _ => e.args.length - (intOf iv).toNat)
      case atStart => exact ⟨0, [], Nat.zero_le _, rfl, Nat.zero_le _, Lib.hid ⟨rfl, .inl ⟨rfl, rfl⟩⟩, Lib.hid ⟨by rw [List.take_zero, conjL]; rfl, (fun x hx => by cases hx), HB.out.1, HB.out.2⟩⟩
      case round =>
        obtain ⟨j, hs, hj, rfl, hhl, HO, HW⟩ := hrel
        have hq := HW.out.2.2.2
        have y7 := hq.cell 7
        simp only [List.getElem?_toArray, List.getElem?_cons_succ, List.getElem?_cons_zero] at y7
        clear hq
        by_cases hlt : j < e.args.length
        · have hlti : (j : Int) < (e.args.length : Int) := by omega
          have hj0 : (0 : Int) ≤ (j : Int) := by omega
          obtain ⟨b, o, hAe, hb, he⟩ := (HA.out.kept (P' := Lo B) (fun b hb => HW.out.2.2.1.block b (Nat.lt_of_lt_of_le hb hBw)) fun b hb => hb).at_ hlt
          rw [hAe] at y7
          have HAe := Lib.hid hAe
          clear hAe
          obtain ⟨z0, z1, z2, z3, z4, z5, z6, ⟨A1, c1, z7, z8⟩, R1, d1, z9, z10⟩ := EOk.mk_.1 he
          have x0 : wr.cell? ⟨b, o + j * 9, none⟩ = some (.int .i64 e.args[j].op) := z0
          have x1 : wr.cell? ⟨b, o + j * 9 + 1, none⟩ = some (.int .i64 e.args[j].n) := z1
          have x2 : wr.cell? ⟨b, o + j * 9 + 2, none⟩ = some (.int .i64 e.args[j].m) := z2
          have x3 : wr.cell? ⟨b, o + j * 9 + 3, none⟩ = some (.int .i64 e.args[j].kind) := z3
          have x4 : wr.cell? ⟨b, o + j * 9 + 4, none⟩ = some (.int .i64 e.args[j].lit.k) := z4
          have x5 : wr.cell? ⟨b, o + j * 9 + 5, none⟩ = some (.int .i64 e.args[j].lit.n) := z5
          have x6 : wr.cell? ⟨b, o + j * 9 + 6, none⟩ = some (.string e.args[j].lit.s) := z6
          have x7 : wr.cell? ⟨b, o + j * 9 + 7, none⟩ = some (.slice A1 e.args[j].args.length c1) := z7
          have x8 : wr.cell? ⟨b, o + j * 9 + 8, none⟩ = some (.slice R1 e.args[j].rels.length d1) := z9
          have hnm := nodesL_mem (List.getElem_mem hlt)
          have HK := Lib.hid (IH.out e.args[j] A1 R1 c1 d1 wr (by omega) (by omega) (Nat.le_trans hBw HW.out.2.2.1.size) z8 z10)
          have HTk := Lib.hid (conjL_take e.args j hlt)
          have HTl := Lib.hid (conjL_take_len e.args j hlt)
          clear z0 z1 z2 z3 z4 z5 z6 z7 z8 z9 z10 he hnm
          generalize conjE e.args[j] = ms at *
          generalize e.args[j] = ei at *
          unfold E.val at HK
          have hsz := HW.out.2.2.1.size
          have hbx : w.heap.size + 1 ≤ wr.heap.size := HW.out.2.2.2.lt
          go_wp2_with fail
          refine HK.out.mono ?_
          rintro x w3 ⟨A5, c5, h5, hm5, rfl, hr5, ho5, hb3⟩
          have hl5 : h5.length = ms.length := by rw [← hm5, List.length_map]
          have hsm : hs.length + h5.length ≤ 10000 := by
            have h1 := congrArg List.length HW.out.1
            rw [List.length_map] at h1
            have h2 := HTl.out
            omega
          have H3 : Hid (w3.ownsRow (w.heap.size + 1) 29 9 u3 hs.length (hcells hs) ∧ Reads w3 w3.heap.size 9 A5 h5.length (hcells h5) ∧ Below wr.heap.size wr w3 ∧ (∀ x ∈ h5, x.ok w3 (Lo B)) ∧ (hs ++ h5).map HE.e = conjL (e.args.take (j + 1))) := Lib.hid ⟨own_below HO.out hb3, hr5.reads fun b hb => hb.2, hb3, ho5, by rw [List.map_append, HW.out.1, hm5, HTk.out]⟩
          have hsz3 := hb3.size
          clear hm5 hr5 ho5 hb3 HK x0 x1 x2 x3 x4 x5 x6 x7 x8 y7 hl5 HTk HTl
          go_wp2_with (at_builtin; refine wpList_append_any _ rfl (.tmp 17) (.tmp 23) 26 rfl (w.heap.size + 1) 29 i0 (.agg #[.int .i64 0, .int .i64 0, .int .i64 0, .int .i64 0, .int .i64 0, .int .i64 0, .string ⟨#[]⟩, .slice none 0 0, .slice none 0 0]) 9 112 Tryz.underlying26 hi hz0 hz1 hz2 rfl (by decide) _ _ _ rfl H3.out.1 w3.heap.size _ _ _ (hcells h5) rfl ?c0 ?c1 ?c2 ?c3 ?c4 ?_)
          case c0 => exact H3.out.2.1
          case c1 => exact hcells_one _
          case c2 => unfold maxLen; omega
          case c3 => omega
          case c4 => omega
          intro v' w4 hown4 hgrow _
          have hW3 : Below w.heap.size w w3 := thn HW.out.2.2.1 H3.out.2.2.1
          have hno : ∀ b, b < w.heap.size + 1 → some b ≠ u3.ownBlock := fun b hb e1 => by have := (H3.out.1.lt b e1.symm).1; omega
          have HN : Hid (w4.ownsRow (w.heap.size + 1) 29 9 v' (hs ++ h5).length (hcells (hs ++ h5))) := Lib.hid (by rw [hcells_append, List.length_append]; exact hown4)
          have HN2 : Hid ((hs ++ h5).map HE.e = conjL (e.args.take (j + 1)) ∧ (∀ x ∈ hs ++ h5, x.ok w4 (Lo B)) ∧ Below w.heap.size w w4 ∧ Blk w4 w.heap.size 29 #[.int .i64 19, .int .i64 e.n, .int .i64 e.m, .int .i64 e.kind, .int .i64 e.lit.k, .int .i64 e.lit.n, .string e.lit.s, .slice A e.args.length c, .slice R e.rels.length d]) := Lib.hid (by
            have hb34 : Below w.heap.size w w4 := hW3.grown hgrow hW3.size (fun g hg => by have := own_base H3.out.1 g hg; omega)
            refine ⟨H3.out.2.2.2.2, fun x hx => ?_, hb34, (HW.out.2.2.2.below H3.out.2.2.1 HW.out.2.2.2.lt).grown hgrow (hno _ (Nat.lt_succ_self _))⟩
            rcases List.mem_append.1 hx with h | h
            · exact (HW.out.2.1 x h).kept (fun b hb => (hgrow.block b (by have : b < B := hb; omega) (hno b (by have : b < B := hb; omega))).trans (H3.out.2.2.1.block b (by have : b < B := hb; omega))) fun b hb => hb
            · exact (H3.out.2.2.2.1 x h).kept (fun b hb => hgrow.block b (by have : b < B := hb; omega) (hno b (by have : b < B := hb; omega))) fun b hb => hb)
          have hl2 : (hs ++ h5).length ≤ 10000 := by rw [List.length_append]; exact hsm
          clear hown4 hgrow hno
          go_wp2_with fail
          go_roundw
          case rel => exact ⟨j + 1, hs ++ h5, by omega, by go_num, hl2, HN, HN2⟩
          case measure => simp [intOf]; omega
        · have hlf : decide ((j : Int) < (e.args.length : Int)) = false := decide_eq_false (by omega)
          have HF : Hid (hs.map HE.e = conjL e.args ∧ (∀ x ∈ hs, x.ok wr (Lo B)) ∧ Below w.heap.size w wr) := Lib.hid ⟨by rw [HW.out.1, List.take_of_length_le (by omega)], HW.out.2.1, HW.out.2.2.1⟩
          obtain ⟨A6, c6, hv6, hR6⟩ := HReads.own HO.out
          subst hv6
          have HR6 := Lib.hid (hR6 (P := NwB w.heap.size wr.heap.size) fun b h1 h2 => ⟨by omega, h2⟩)
          clear hR6 HO HW
          go_wp2_with fail
          go_ret
          exact ⟨A6, c6, hs, HF.out.1, rfl, HR6.out, HF.out.2.1, HF.out.2.2⟩
    · rw [if_neg ho] at hce
      rw [hce]
      have hob : (e.op != 19) = true := bne_iff_ne.2 ho
      have HP : Hid (Below w.heap.size w ((w.alloc (.cells #[.int .i64 e.op, .int .i64 e.n, .int .i64 e.m, .int .i64 e.kind, .int .i64 e.lit.k, .int .i64 e.lit.n, .string e.lit.s, .slice A e.args.length c, .slice R e.rels.length d] 29)).alloc (.cells #[.int .i64 e.op, .int .i64 e.n, .int .i64 e.m, .int .i64 e.kind, .int .i64 e.lit.k, .int .i64 e.lit.n, .string e.lit.s, .slice A e.args.length c, .slice R e.rels.length d] 29)) ∧ HReads ((w.alloc (.cells #[.int .i64 e.op, .int .i64 e.n, .int .i64 e.m, .int .i64 e.kind, .int .i64 e.lit.k, .int .i64 e.lit.n, .string e.lit.s, .slice A e.args.length c, .slice R e.rels.length d] 29)).alloc (.cells #[.int .i64 e.op, .int .i64 e.n, .int .i64 e.m, .int .i64 e.kind, .int .i64 e.lit.k, .int .i64 e.lit.n, .string e.lit.s, .slice A e.args.length c, .slice R e.rels.length d] 29)) (NwB w.heap.size ((w.alloc (.cells #[.int .i64 e.op, .int .i64 e.n, .int .i64 e.m, .int .i64 e.kind, .int .i64 e.lit.k, .int .i64 e.lit.n, .string e.lit.s, .slice A e.args.length c, .slice R e.rels.length d] 29)).alloc (.cells #[.int .i64 e.op, .int .i64 e.n, .int .i64 e.m, .int .i64 e.kind, .int .i64 e.lit.k, .int .i64 e.lit.n, .string e.lit.s, .slice A e.args.length c, .slice R e.rels.length d] 29)).heap.size) (some ⟨w.heap.size + 1, 0, none⟩) [⟨e, A, c, R, d⟩] ∧ ∀ h ∈ ([⟨e, A, c, R, d⟩] : List HE), h.ok ((w.alloc (.cells #[.int .i64 e.op, .int .i64 e.n, .int .i64 e.m, .int .i64 e.kind, .int .i64 e.lit.k, .int .i64 e.lit.n, .string e.lit.s, .slice A e.args.length c, .slice R e.rels.length d] 29)).alloc (.cells #[.int .i64 e.op, .int .i64 e.n, .int .i64 e.m, .int .i64 e.kind, .int .i64 e.lit.k, .int .i64 e.lit.n, .string e.lit.s, .slice A e.args.length c, .slice R e.rels.length d] 29)) (Lo B)) := Lib.hid (by
        have hb2 : Below w.heap.size w ((w.alloc (.cells #[.int .i64 e.op, .int .i64 e.n, .int .i64 e.m, .int .i64 e.kind, .int .i64 e.lit.k, .int .i64 e.lit.n, .string e.lit.s, .slice A e.args.length c, .slice R e.rels.length d] 29)).alloc (.cells #[.int .i64 e.op, .int .i64 e.n, .int .i64 e.m, .int .i64 e.kind, .int .i64 e.lit.k, .int .i64 e.lit.n, .string e.lit.s, .slice A e.args.length c, .slice R e.rels.length d] 29)) := al (al (Below.refl _ _) _) _
        have hsz : ((w.alloc (.cells #[.int .i64 e.op, .int .i64 e.n, .int .i64 e.m, .int .i64 e.kind, .int .i64 e.lit.k, .int .i64 e.lit.n, .string e.lit.s, .slice A e.args.length c, .slice R e.rels.length d] 29)).alloc (.cells #[.int .i64 e.op, .int .i64 e.n, .int .i64 e.m, .int .i64 e.kind, .int .i64 e.lit.k, .int .i64 e.lit.n, .string e.lit.s, .slice A e.args.length c, .slice R e.rels.length d] 29)).heap.size = w.heap.size + 1 + 1 := by simp
        refine ⟨hb2, fun _ => ⟨w.heap.size + 1, 0, rfl, ⟨by omega, by omega⟩, fun i h hi t ht => ?_⟩, fun h hh => ?_⟩
        · have hi0 : i = 0 := by have := (List.getElem?_eq_some_iff.1 hi).1; simpa using this
          subst hi0
          simp at hi
          subst hi
          rw [show 0 + 0 * 9 + t = t by omega, (Blk.new' (w := (w.alloc (.cells #[.int .i64 e.op, .int .i64 e.n, .int .i64 e.m, .int .i64 e.kind, .int .i64 e.lit.k, .int .i64 e.lit.n, .string e.lit.s, .slice A e.args.length c, .slice R e.rels.length d] 29))) (g := w.heap.size + 1) (t := 29) (cs := #[.int .i64 e.op, .int .i64 e.n, .int .i64 e.m, .int .i64 e.kind, .int .i64 e.lit.k, .int .i64 e.lit.n, .string e.lit.s, .slice A e.args.length c, .slice R e.rels.length d]) (by simp)).cell t]
          simp [HE.cells]
        · rw [List.mem_singleton] at hh
          subst hh
          exact ⟨hA.kept (fun b hb => hb2.block b (by have : b < B := hb; omega)) fun b hb => hb, hR.kept (fun b hb => hb2.block b (by have : b < B := hb; omega)) fun b hb => hb⟩)
      clear ih hA hR hce ho
      unfold E.val
      go_enter Tryz.func14, Tryz.ntmps14
      go_wp2_with fail
      go_ret
      exact ⟨_, _, [⟨e, A, c, R, d⟩], rfl, rfl, HP.out.2.1, HP.out.2.2, HP.out.1⟩
end Go.Proofs.YtcbcncaoabablaaGreatDoor
