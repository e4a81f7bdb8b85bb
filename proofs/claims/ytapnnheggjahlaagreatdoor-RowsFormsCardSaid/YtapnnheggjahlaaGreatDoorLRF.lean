/-
  THE WALK of RowsForms.
-/
import Derived.Test.YtapnnheggjahlaaGreatDoorGM
namespace Go.Proofs.YtapnnheggjahlaaGreatDoor
open Go.RowKit

theorem fitsE_large {cs : List (Int × Bool)} {L : List (List V)} (h : 16 < cs.length) : fitsE cs L = 2 := if_pos h
theorem fitsE_bad {cs : List (Int × Bool)} {L : List (List V)} (h : ¬ 16 < cs.length) (h1 : chkR [L] ≠ 0) : fitsE cs L = chkR [L] := by unfold fitsE; rw [if_neg h, if_pos h1]
theorem fitsE_cols {cs : List (Int × Bool)} {L : List (List V)} (h : ¬ 16 < cs.length) (h1 : chkR [L] = 0) (h2 : colsE cs ≠ 0) : fitsE cs L = colsE cs := by unfold fitsE; rw [if_neg h, if_neg (by simp [h1]), if_pos h2]
theorem fitsE_fit {cs : List (Int × Bool)} {L : List (List V)} (h : ¬ 16 < cs.length) (h1 : chkR [L] = 0) (h2 : colsE cs = 0) : fitsE cs L = if fitE cs L then 0 else 20 := by unfold fitsE; rw [if_neg h, if_neg (by simp [h1]), if_neg (by simp [h2])]
theorem ok_of {L : List (List V)} (h : chkR [L] = 0) : ∀ r ∈ L, ∀ v ∈ r, v.ok = true := fun r hr v hv => by
  obtain ⟨_, h2⟩ := chkR_zero h
  rw [List.any_eq_false] at h2
  have h2 := h2 L (by simp)
  unfold badL at h2
  simp only [List.any_eq_true, not_exists, not_and, Bool.not_eq_true', Bool.not_eq_false] at h2
  exact h2 r hr v hv
set_option maxHeartbeats 4000000 in
theorem RowsForms_any (AC A : Option Addr) (cC c : Nat) (cs : List (Int × Bool)) (L : List (List V)) (many : Bool) (w : World) (hG : G w) (hk : KReads w w.heap.size AC cs) (hkc : cs.length ≤ cC) (hkl : cs.length ≤ maxLen) (hl : LReads0 w w.heap.size A L) (hL : InL L) :
    Calls Tryz.prog 3 #[.slice AC cs.length cC, .slice A L.length c, .bool many] w fun e w' => e = .returned (.bool true) ∧ Below w.heap.size w w' := by
  have HG := Lib.hid hG
  have HA := Lib.hid (And.intro hk (And.intro hkc (And.intro hkl (And.intro hl hL))))
  clear hG hk hkc hkl hl hL
  go_enter Tryz.func3, Tryz.ntmps3
  go_wp2_with fail
  refine (CutCols_any AC cC cs w HA.out.1 HA.out.2.1 HA.out.2.2.1).mono ?_
  rintro e w1 ⟨A1, c1, rfl, hk1, hb⟩
  have X := Lib.hid (And.intro hk1 hb)
  have hql : (cs.take 18).length ≤ 18 := by rw [List.length_take]; omega
  clear hk1 hb
  generalize cs.take 18 = q at *
  go_wp2_with fail
  refine (CutL_any 30 A c L w1 (HA.out.2.2.2.1.below X.out.2 X.out.2.size) HA.out.2.2.2.2.fit (by omega)).mono ?_
  rintro e w2 ⟨v2, vs2, rfl, ho, hrs, _, hb⟩
  obtain ⟨A2, c2, rfl, hl2⟩ := OutR.lreads ⟨vs2, ho, hrs⟩
  have Z := Lib.hid (And.intro (Reads.of_own ho) (And.intro hrs.rowsR (And.intro hl2 hb)))
  have B2 := Lib.hid (thn X.out.2 hb)
  clear ho hrs hl2 hb
  go_wp2_with fail
  refine (longR_any many A2 c2 (cutL 30 L) vs2 w2 Z.out.1 Z.out.2.1 Z.out.2.2.1 (by have := cutL_len 30 L; omega)).mono ?_
  rintro e w3 ⟨v3, vs3, out, rfl, ho, hrs, hm, hlen, hb⟩
  obtain ⟨A3, c3, rfl, hl3⟩ := own_lreads ho hrs hb.size
  have B3 := Lib.hid (thn B2.out hb)
  have HI : Hid (InL out ∧ (∀ r ∈ out, r.length ≤ 18)) := ⟨⟨by unfold maxLen; omega, fun r h => (InL.cutL HA.out.2.2.2.2).2 r (hm r h)⟩, fun r h => cutL_rows r (hm r h)⟩
  have S := Lib.hid (And.intro ((X.out.1.below Z.out.2.2.2 Z.out.2.2.2.size).below hb hb.size) (And.intro hl3 (HG.out.thn B3.out)))
  clear ho hrs hm hb hl3 X Z HA HG B2
  go_wp2_with fail
  refine (RList_any A3 none c3 0 out [] w3 S.out.2.1 (LReads.nil_ _ _ _) HI.out.1.fit ⟨by simp, fun r h => by simp at h⟩).mono ?_
  rintro e w4 ⟨rfl, hb⟩
  have B4 := Lib.hid hb
  clear hb
  rw [chkR_nil]
  have HCC : Hid (∀ w5, Below w3.heap.size w3 w5 → Calls Tryz.prog 20 #[.slice A1 q.length c1] w5 fun e w' => e = .returned (.int .i64 (colsE q)) ∧ Below w5.heap.size w5 w') := fun w5 h => CheckCols_any A1 c1 q w5 (S.out.1.below h h.size) (by omega)
  have HRC : Hid (∀ w5, Below w3.heap.size w3 w5 → Calls Tryz.prog 18 #[.slice A1 q.length c1] w5 fun e w' => e = .returned (.int .i64 (colsE q)) ∧ w' = w5) := fun w5 h => RCols_any A1 c1 q w5 (S.out.1.below h h.size) (by omega)
  have HCK : Hid (∀ w5, Below w3.heap.size w3 w5 → Calls Tryz.prog 21 #[.slice A1 q.length c1, .slice A3 out.length c3] w5 fun e w' => e = .returned (.int .i64 (fitsE q out)) ∧ Below w5.heap.size w5 w') := fun w5 h => RowsCheck_any A1 A3 c1 c3 q out w5 (S.out.1.below h h.size) (S.out.2.1.below h h.size) (by omega) HI.out.1 (by omega) (fun r hr => by have := HI.out.2 r hr; omega)
  have HLA := Lib.hid (And.intro (fitsE_large (cs := q) (L := out)) (And.intro (fitsE_bad (cs := q) (L := out)) (And.intro (fitsE_cols (cs := q) (L := out)) (fitsE_fit (cs := q) (L := out)))))
  by_cases hq : 16 < q.length
  · have e1 := HLA.out.1 hq
    rw [e1] at HCK
    clear HLA
    go_wp2_with fail
    refine (HCC.out _ B4.out).mono ?_
    rintro e w5 ⟨rfl, hb⟩
    have B5 := Lib.hid (thn B4.out hb)
    clear hb
    go_wp2_with fail
    refine (HRC.out _ B5.out).mono ?_
    rintro e w6 ⟨rfl, rfl⟩
    have hce : (colsE q == colsE q) = true := by simp
    generalize colsE q = k1 at *
    go_wp2_with fail
    refine (HCK.out _ B5.out).mono ?_
    rintro e w7 ⟨rfl, hb⟩
    have B7 := Lib.hid (thn B5.out hb)
    clear hb
    go_wp2_with fail
    refine (awake_any w7 (S.out.2.2.thn B7.out)).mono ?_
    rintro e w12 ⟨rfl, hb⟩
    have B12 := Lib.hid (thn B3.out (thn B7.out hb))
    clear hb
    go_wp2_with fail
    go_ret
    exact ⟨rfl, B12.out⟩
  · by_cases hz : chkR [out] = 0
    · have HOK := Lib.hid (ok_of hz)
      by_cases hc : colsE q = 0
      · have e1 := HLA.out.2.2.2 hq hz hc
        rw [e1] at HCK
        clear HLA
        have hc2 := Lib.hid hc
        rw [hc] at HRC HCC
        rw [hz]
        clear hz
        go_wp2_with fail
        refine (HRC.out _ B4.out).mono ?_
        rintro e w6 ⟨rfl, rfl⟩
        go_wp2_with fail
        refine (RAllFit_any A1 A3 c1 c3 q out w6 (S.out.1.below B4.out B4.out.size) (S.out.2.1.below B4.out B4.out.size) (by omega) (by omega) (fun r hr => ⟨by have := HI.out.2 r hr; omega, fun v hv => ((HI.out.1.2 r hr).2 v hv).1, HOK.out r hr⟩)).mono ?_
        rintro e w5 ⟨rfl, hb⟩
        have B5 := Lib.hid (thn B4.out hb)
        clear hb hc
        generalize fitE q out = t at *
        cases t
        all_goals
          go_wp2_with fail
          refine (HCC.out _ B5.out).mono ?_
          rintro e w7 ⟨rfl, hb⟩
          have B7 := Lib.hid (thn B5.out hb)
          clear hb
          go_wp2_with fail
          refine (HRC.out _ B7.out).mono ?_
          rintro e w8 ⟨rfl, rfl⟩
          go_wp2_with fail
          refine (HCK.out _ B7.out).mono ?_
          rintro e w9 ⟨rfl, hb⟩
          have B9 := Lib.hid (thn B7.out hb)
          clear hb
          go_wp2_with fail
          refine (awake_any w9 (S.out.2.2.thn B9.out)).mono ?_
          rintro e w12 ⟨rfl, hb⟩
          have B12 := Lib.hid (thn B3.out (thn B9.out hb))
          clear hb
          go_wp2_with fail
          go_ret
          exact ⟨rfl, B12.out⟩
      · have e1 := HLA.out.2.2.1 hq hz hc
        rw [e1] at HCK
        clear HLA
        have hcb : (colsE q == 0) = false := by simp [hc]
        have hce : (colsE q == colsE q) = true := by simp
        rw [hz]
        clear hz hc e1
        generalize colsE q = k1 at *
        go_wp2_with fail
        refine (HRC.out _ B4.out).mono ?_
        rintro e w6 ⟨rfl, rfl⟩
        go_wp2_with fail
        refine (HCC.out _ B4.out).mono ?_
        rintro e w7 ⟨rfl, hb⟩
        have B7 := Lib.hid (thn B4.out hb)
        clear hb
        go_wp2_with fail
        refine (HRC.out _ B7.out).mono ?_
        rintro e w8 ⟨rfl, rfl⟩
        go_wp2_with fail
        refine (HCK.out _ B7.out).mono ?_
        rintro e w9 ⟨rfl, hb⟩
        have B9 := Lib.hid (thn B7.out hb)
        clear hb
        go_wp2_with fail
        refine (awake_any w9 (S.out.2.2.thn B9.out)).mono ?_
        rintro e w12 ⟨rfl, hb⟩
        have B12 := Lib.hid (thn B3.out (thn B9.out hb))
        clear hb
        go_wp2_with fail
        go_ret
        exact ⟨rfl, B12.out⟩
    · have e1 := HLA.out.2.1 hq hz
      rw [e1] at HCK
      clear HLA
      have hzb : (chkR [out] == 0) = false := by simp [hz]
      have hze : (chkR [out] == chkR [out]) = true := by simp
      have hce : (colsE q == colsE q) = true := by simp
      clear hz e1
      generalize chkR [out] = k2 at *
      generalize colsE q = k1 at *
      go_wp2_with fail
      refine (HCC.out _ B4.out).mono ?_
      rintro e w7 ⟨rfl, hb⟩
      have B7 := Lib.hid (thn B4.out hb)
      clear hb
      go_wp2_with fail
      refine (HRC.out _ B7.out).mono ?_
      rintro e w8 ⟨rfl, rfl⟩
      go_wp2_with fail
      refine (HCK.out _ B7.out).mono ?_
      rintro e w9 ⟨rfl, hb⟩
      have B9 := Lib.hid (thn B7.out hb)
      clear hb
      go_wp2_with fail
      refine (awake_any w9 (S.out.2.2.thn B9.out)).mono ?_
      rintro e w12 ⟨rfl, hb⟩
      have B12 := Lib.hid (thn B3.out (thn B9.out hb))
      clear hb
      go_wp2_with fail
      go_ret
      exact ⟨rfl, B12.out⟩
end Go.Proofs.YtapnnheggjahlaaGreatDoor
