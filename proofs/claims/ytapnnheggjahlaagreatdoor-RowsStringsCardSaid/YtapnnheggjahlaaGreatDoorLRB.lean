/-
  rows.Same, the reference's Same; THE WALK of RowsBags.
-/
import Derived.Test.YtapnnheggjahlaaGreatDoorLRO
import Derived.Test.YtapnnheggjahlaaGreatDoorRfM
import Derived.Test.YtapnnheggjahlaaGreatDoorMeqC
namespace Go.Proofs.YtapnnheggjahlaaGreatDoor
open Go.RowKit

set_option maxHeartbeats 1000000 in
theorem Same_ok (A A' : Option Addr) (c c' : Nat) (L L2 : List (List V)) (w : World) (hG : G w) (hr : LReads w w.heap.size A L) (hr2 : LReads w w.heap.size A' L2) (hi : InL L) (hi2 : InL L2) (h0 : chkR [L, L2] = 0) :
    Calls Tryz.prog 29 #[.slice A L.length c, .slice A' L2.length c'] w fun e w' => e = .returned (.tuple #[.bool (decide (canon L = canon L2)), .int .i64 0]) ∧ Below w.heap.size w w' := by
  have HA := Lib.hid (And.intro hr (And.intro hr2 (And.intro hi hi2)))
  have HG := Lib.hid hG
  have h1 := fine_of h0 (L := L) (by simp) hi
  have h2 := fine_of h0 (L := L2) (by simp) hi2
  have hL := h1.2.1
  have hL2 := h2.2.1
  have H0 := Lib.hid (And.intro h1.1 h2.1)
  have he : (chkR [L, L2] != 0) = false := by simp [h0]
  clear hG hr hr2 hi hi2 h0 h1 h2
  go_enter Tryz.func29, Tryz.ntmps29
  go_wp2_with fail
  have q1 := Blk.new w 23 #[.slice A L.length c, .slice A' L2.length c']
  have q2 : Below w.heap.size w (w.alloc (.cells #[.slice A L.length c, .slice A' L2.length c'] 23)) := al (Below.refl _ _) _
  have q3 := LLReads.two q1 (HA.out.1.below q2 q2.size) (HA.out.2.1.below q2 q2.size)
  refine (checkR_any _ _ [L, L2] _ q3 (fun X hX => ?_) (by simp)).mono ?_
  · simp only [List.mem_cons, List.not_mem_nil, or_false] at hX
    rcases hX with rfl | rfl
    · exact HA.out.2.2.1.fit
    · exact HA.out.2.2.2.fit
  rintro e w1 ⟨rfl, hb1⟩
  have W1 := Lib.hid (thn q2 hb1)
  clear q1 q2 q3 hb1
  go_wp2_with fail
  refine (counts_any A c L _ (HG.out.thn W1.out) (HA.out.1.below W1.out W1.out.size) H0.out.1 hL).mono ?_
  rintro e w2 ⟨b, rfl, hbw, hcm, hb2⟩
  have W2 := Lib.hid (And.intro hcm (thn W1.out hb2))
  clear hcm hb2 hbw
  go_wp2_with fail
  refine (counts_any A' c' L2 _ (HG.out.thn W2.out.2) (HA.out.2.1.below W2.out.2 W2.out.2.size) H0.out.2 hL2).mono ?_
  rintro e w3 ⟨b2, rfl, hbw, hcm, hb3⟩
  have W3 := Lib.hid (And.intro (W2.out.1.below hb3) (And.intro hcm (thn W2.out.2 hb3)))
  clear hcm hb3 hbw
  go_wp2_with fail
  refine (mapsEqual_any b b2 _ _ L L2 _ W3.out.1 W3.out.2.1 H0.out.1 H0.out.2).mono ?_
  rintro e w4 ⟨rfl, hb4⟩
  have W4 := Lib.hid (thn W3.out.2.2 hb4)
  clear hb4
  go_wp2_with fail
  go_ret2
  exact ⟨rfl, W4.out⟩
set_option maxHeartbeats 1000000 in
theorem Same_err (A A' : Option Addr) (c c' : Nat) (L L2 : List (List V)) (w : World) (hr : LReads w w.heap.size A L) (hr2 : LReads w w.heap.size A' L2) (hi : InL L) (hi2 : InL L2) (h0 : chkR [L, L2] ≠ 0) :
    Calls Tryz.prog 29 #[.slice A L.length c, .slice A' L2.length c'] w fun e w' => e = .returned (.tuple #[.bool false, .int .i64 (chkR [L, L2])]) ∧ Below w.heap.size w w' := by
  have HA := Lib.hid (And.intro hr (And.intro hr2 (And.intro hi hi2)))
  have he : (chkR [L, L2] != 0) = true := by simp [h0]
  clear hr hr2 hi hi2 h0
  go_enter Tryz.func29, Tryz.ntmps29
  go_wp2_with fail
  have q1 := Blk.new w 23 #[.slice A L.length c, .slice A' L2.length c']
  have q2 : Below w.heap.size w (w.alloc (.cells #[.slice A L.length c, .slice A' L2.length c'] 23)) := al (Below.refl _ _) _
  have q3 := LLReads.two q1 (HA.out.1.below q2 q2.size) (HA.out.2.1.below q2 q2.size)
  refine (checkR_any _ _ [L, L2] _ q3 (fun X hX => ?_) (by simp)).mono ?_
  · simp only [List.mem_cons, List.not_mem_nil, or_false] at hX
    rcases hX with rfl | rfl
    · exact HA.out.2.2.1.fit
    · exact HA.out.2.2.2.fit
  rintro e w1 ⟨rfl, hb1⟩
  have W1 := Lib.hid (thn q2 hb1)
  clear q1 q2 q3 hb1
  go_wp2_with fail
  go_ret2
  exact ⟨rfl, W1.out⟩
theorem Same_any (A A' : Option Addr) (c c' : Nat) (L L2 : List (List V)) (w : World) (hG : G w) (hr : LReads w w.heap.size A L) (hr2 : LReads w w.heap.size A' L2) (hi : InL L) (hi2 : InL L2) :
    Calls Tryz.prog 29 #[.slice A L.length c, .slice A' L2.length c'] w fun e w' => ∃ s : Bool, e = .returned (.tuple #[.bool s, .int .i64 (chkR [L, L2])]) ∧ (chkR [L, L2] = 0 → s = decide (canon L = canon L2)) ∧ (chkR [L, L2] ≠ 0 → s = false) ∧ Below w.heap.size w w' := by
  by_cases h0 : chkR [L, L2] = 0
  · exact (Same_ok A A' c c' L L2 w hG hr hr2 hi hi2 h0).mono fun e w' ⟨h1, h2⟩ => ⟨_, by rw [h0]; exact h1, fun _ => rfl, fun h => absurd h0 h, h2⟩
  · exact (Same_err A A' c c' L L2 w hr hr2 hi hi2 h0).mono fun e w' ⟨h1, h2⟩ => ⟨_, h1, fun h => absurd h h0, fun _ => rfl, h2⟩

theorem fit_canon {L : List (List V)} (h : ∀ r ∈ L, r.length ≤ 1000000 ∧ VFit r) : ∀ r ∈ canon L, r.length ≤ maxLen ∧ VFit r := fun r hr => ⟨by have := (h r (srtC_mem.1 hr)).1; unfold maxLen; omega, (h r (srtC_mem.1 hr)).2⟩
set_option maxHeartbeats 1000000 in
theorem RSame_any (A A' : Option Addr) (c c' : Nat) (L L2 : List (List V)) (w : World) (hr : LReads w w.heap.size A L) (hr2 : LReads w w.heap.size A' L2) (hf : ∀ r ∈ L, r.length ≤ 1000000 ∧ VFit r) (hf2 : ∀ r ∈ L2, r.length ≤ 1000000 ∧ VFit r) (hc : L.length ≤ c) (hc2 : L2.length ≤ c') (hn : L.length ≤ 1000000) (hn2 : L2.length ≤ 1000000) :
    Calls Tryz.prog 32 #[.slice A L.length c, .slice A' L2.length c'] w fun e w' => e = .returned (.bool (decide (canon L = canon L2))) ∧ Below w.heap.size w w' := by
  have HA := Lib.hid (And.intro hr (And.intro hr2 (And.intro hf (And.intro hf2 (And.intro hc (And.intro hc2 (And.intro hn hn2)))))))
  clear hr hr2 hf hf2 hc hc2 hn hn2
  go_enter Tryz.func32, Tryz.ntmps32
  go_wp2_with fail
  refine (RCanonical_any A c L w HA.out.1 HA.out.2.2.1 HA.out.2.2.2.2.1 HA.out.2.2.2.2.2.2.1).mono ?_
  rintro e w1 ⟨A1, c1, rfl, hl, hb⟩
  have W1 := Lib.hid (And.intro hl hb)
  clear hl hb
  go_wp2_with fail
  refine (RCanonical_any A' c' L2 w1 (HA.out.2.1.below W1.out.2 W1.out.2.size) HA.out.2.2.2.1 HA.out.2.2.2.2.2.1 HA.out.2.2.2.2.2.2.2).mono ?_
  rintro e w2 ⟨A2, c2, rfl, hl, hb⟩
  have W2 := Lib.hid (And.intro (W1.out.1.below hb hb.size) (And.intro hl (thn W1.out.2 hb)))
  have e1 : L.length = (canon L).length := (srtC_len L).symm
  have e2 : L2.length = (canon L2).length := (srtC_len L2).symm
  have HE := Lib.hid (And.intro e1 e2)
  clear hl hb e1 e2
  go_wp2_with fail
  have q := REqual_any A1 A2 c1 c2 (canon L) (canon L2) w2 W2.out.1 W2.out.2.1 (fit_canon HA.out.2.2.1) (fit_canon HA.out.2.2.2.1) (by rw [← HE.out.1]; have := HA.out.2.2.2.2.2.2.1; unfold maxLen; omega)
  rw [← HE.out.1, ← HE.out.2] at q
  refine q.mono ?_
  rintro e w3 ⟨rfl, hb⟩
  have W3 := Lib.hid (thn W2.out.2.2 hb)
  clear q hb
  go_wp2_with fail
  go_ret
  exact ⟨rfl, W3.out⟩

theorem chkR_one (L : List (List V)) : chkR [L, []] = chkR [L] := chkR_nil L
set_option maxHeartbeats 4000000 in
theorem RowsBags_any (A A' AX : Option Addr) (c c' cX : Nat) (L L2 : List (List V)) (r : List V) (w : World) (hG : G w) (hl : LReads0 w w.heap.size A L) (hl2 : LReads0 w w.heap.size A' L2) (hx : VReads w w.heap.size AX r) (hL : InL L) (hL2 : InL L2) (hX : InV r) :
    Calls Tryz.prog 5 #[.slice A L.length c, .slice A' L2.length c', .slice AX r.length cX] w fun e w' => e = .returned (.bool true) ∧ Below w.heap.size w w' := by
  have HG := Lib.hid hG
  have HA := Lib.hid (And.intro hl (And.intro hl2 hx))
  have HF := Lib.hid (And.intro hL (And.intro hL2 hX))
  clear hG hl hl2 hx hL hL2 hX
  go_enter Tryz.func5, Tryz.ntmps5
  go_wp2_with fail
  refine (CutL_any 30 A c L w HA.out.1 HF.out.1.fit (by omega)).mono ?_
  rintro e w1 ⟨v1, vs1, rfl, ho, hrs, _, hb⟩
  obtain ⟨A1, c1, rfl, hl1⟩ := OutR.lreads ⟨vs1, ho, hrs⟩
  have hcap := own_cap ho
  have X := Lib.hid (And.intro hl1 (And.intro hb hcap))
  clear ho hrs hl1 hb hcap
  go_wp2_with fail
  refine (CutL_any 30 A' c' L2 w1 (HA.out.2.1.below X.out.2.1 X.out.2.1.size) HF.out.2.1.fit (by omega)).mono ?_
  rintro e w2 ⟨v2, vs2, rfl, ho, hrs, _, hb⟩
  obtain ⟨A2, c2, rfl, hl2⟩ := OutR.lreads ⟨vs2, ho, hrs⟩
  have hcap := own_cap ho
  have Y := Lib.hid (And.intro hl2 (And.intro (thn X.out.2.1 hb) (And.intro hcap (X.out.1.below hb hb.size))))
  clear ho hrs hl2 hb hcap
  go_wp2_with fail
  refine (CutRow_any AX cX r w2 (HA.out.2.2.below Y.out.2.1 Y.out.2.1.size) HF.out.2.2.fit HF.out.2.2.1).mono ?_
  rintro e w3 ⟨v3, rfl, ho, hb⟩
  obtain ⟨A3, c3, rfl, hp, hv⟩ := own_plain ho
  have B3 := Lib.hid (thn Y.out.2.1 hb)
  have S := Lib.hid (And.intro (Y.out.2.2.2.below hb hb.size) (And.intro (Y.out.1.below hb hb.size) (And.intro hv (And.intro hp (HG.out.thn (thn Y.out.2.1 hb))))))
  have HI : Hid (InL (cutL 30 L) ∧ InL (cutL 30 L2) ∧ (∀ r ∈ cutL 30 L, r.length ≤ 18) ∧ (∀ r ∈ cutL 30 L2, r.length ≤ 18) ∧ (cutL 30 L).length ≤ c1 ∧ (cutL 30 L2).length ≤ c2 ∧ InL [cut 18 r] ∧ InV (cut 18 r) ∧ (cut 18 r).length ≤ 18) :=
    ⟨HF.out.1.cutL, HF.out.2.1.cutL, cutL_rows, cutL_rows, X.out.2.2, Y.out.2.2.1, InL.one HF.out.2.2.cut, HF.out.2.2.cut, cut_len18 r⟩
  have l1 := cutL_len 30 L
  have l2 := cutL_len 30 L2
  clear ho hv hp hb X Y HA HF HG
  generalize cutL 30 L = a at *
  generalize cutL 30 L2 = b at *
  generalize cut 18 r = x at *
  go_wp2_with fail
  refine (Same_any A1 A2 c1 c2 a b w3 S.out.2.2.2.2 S.out.1 S.out.2.1 HI.out.1 HI.out.2.1).mono ?_
  rintro e w4 ⟨s, rfl, hn, hn', hb⟩
  have N1 := Lib.hid (And.intro hn (And.intro hn' hb))
  clear hn hn' hb
  go_wp2_with fail
  refine (Times_any A1 A3 c1 c3 a x w4 (S.out.2.2.2.2.thn N1.out.2.2) (S.out.1.below N1.out.2.2 N1.out.2.2.size) S.out.2.2.2.1 (S.out.2.2.1.below N1.out.2.2 N1.out.2.2.size) HI.out.1 HI.out.2.2.2.2.2.2.1).mono ?_
  rintro e w5 ⟨n, rfl, hn, hn', hb⟩
  have N2 := Lib.hid (And.intro hn (And.intro hn' (thn N1.out.2.2 hb)))
  clear hn hn' hb
  go_wp2_with fail
  refine (Distinct_any A1 c1 a w5 (S.out.2.2.2.2.thn N2.out.2.2) (S.out.1.below N2.out.2.2 N2.out.2.2.size) HI.out.1).mono ?_
  rintro e w6 ⟨Ad, nd, cd, rfl, hn, hn', hb⟩
  have N3 := Lib.hid (And.intro hn (And.intro hn' (And.intro (thn N2.out.2.2 hb) (Below.refl w6.heap.size w6))))
  clear hn hn' hb
  go_wp2_with fail
  refine (RList_any A1 A2 c1 c2 a b w6 (S.out.1.below N3.out.2.2.1 N3.out.2.2.1.size) (S.out.2.1.below N3.out.2.2.1 N3.out.2.2.1.size) HI.out.1.fit HI.out.2.1.fit).mono ?_
  rintro e w7 ⟨rfl, hb⟩
  have B7 := Lib.hid (And.intro (thn N3.out.2.2.1 hb) hb)
  clear hb
  by_cases hk : chkR [a, b] = 0
  · have e1 := Lib.hid (N1.out.1 hk)
    rw [hk]
    go_wp2_with fail
    refine (RSame_any A1 A2 c1 c2 a b w7 (S.out.1.below B7.out.1 B7.out.1.size) (S.out.2.1.below B7.out.1 B7.out.1.size) (fun r h => ⟨by have := HI.out.2.2.1 r h; omega, fun v hv => ((HI.out.1.2 r h).2 v hv).1⟩) (fun r h => ⟨by have := HI.out.2.2.2.1 r h; omega, fun v hv => ((HI.out.2.1.2 r h).2 v hv).1⟩) HI.out.2.2.2.2.1 HI.out.2.2.2.2.2.1 (by omega) (by omega)).mono ?_
    rintro e w8 ⟨rfl, hb⟩
    have B8 := Lib.hid (And.intro (thn B7.out.1 hb) (thn B7.out.2 hb))
    clear hb
    rw [← e1.out]
    have hse : (s != s) = false := by simp
    go_wp2_with fail
    have p1 := Blk.new w8 34 #[.slice A3 x.length c3]
    have p2 : Below w8.heap.size w8 (w8.alloc (.cells #[.slice A3 x.length c3] 34)) := al (Below.refl _ _) _
    have p4 := thn B8.out.1 p2
    have p3 := rows_one p1 S.out.2.2.2.1 (S.out.2.2.1.below p4 p4.size)
    refine (RList_any A1 _ c1 1 a [x] _ (S.out.1.below p4 p4.size) p3 HI.out.1.fit HI.out.2.2.2.2.2.2.1.fit).mono ?_
    rintro e w10 ⟨rfl, hb⟩
    have B10 := Lib.hid (And.intro (thn p4 hb) (thn (thn B8.out.2 p2) hb))
    clear p1 p2 p3 p4 hb
    by_cases hy : chkR [a, [x]] = 0
    · have e1 := Lib.hid (N2.out.1 hy)
      rw [hy]
      go_wp2_with fail
      refine (RTimes_any A1 A3 c1 c3 a x w10 (S.out.1.below B10.out.1 B10.out.1.size) (S.out.2.2.1.below B10.out.1 B10.out.1.size) (fun r h => ⟨(HI.out.1.2 r h).1, fun v hv => ((HI.out.1.2 r h).2 v hv).1⟩) HI.out.2.2.2.2.2.2.2.1.fit HI.out.2.2.2.2.2.2.2.1.1 (by omega)).mono ?_
      rintro e w11 ⟨rfl, hb⟩
      have B11 := Lib.hid (And.intro (thn B10.out.1 hb) (thn B10.out.2 hb))
      clear hb
      rw [← e1.out]
      have hne : (n != n) = false := by simp
      go_wp2_with fail
      refine (RList_any A1 none c1 0 a [] w11 (S.out.1.below B11.out.1 B11.out.1.size) (LReads.nil_ _ _ _) HI.out.1.fit ⟨by simp, fun r h => by simp at h⟩).mono ?_
      rintro e w20 ⟨rfl, hb⟩
      have B20 := Lib.hid (And.intro (thn B11.out.1 hb) (thn B11.out.2 hb))
      clear hb
      rw [chkR_one]
      by_cases hz : chkR [a] = 0
      · have e2 := N3.out.1 hz
        have HD := Lib.hid e2.2
        obtain ⟨en, -⟩ := e2
        subst en
        rw [hz]
        go_wp2_with fail
        refine (RDistinct_any A1 c1 a w20 (S.out.1.below B20.out.1 B20.out.1.size) (fun r h => ⟨by have := HI.out.2.2.1 r h; omega, fun v hv => ((HI.out.1.2 r h).2 v hv).1⟩) HI.out.2.2.2.2.1 (by omega)).mono ?_
        rintro e w21 ⟨A21, c21, rfl, hl, hb⟩
        have B21 := Lib.hid (And.intro (thn B20.out.1 hb) (And.intro (thn B20.out.2 hb) hl))
        clear hl hb
        go_wp2_with fail
        refine (REqual_same Ad A21 cd c21 (ddR (canon a)) w21 (HD.out.below B21.out.2.1 B21.out.2.1.size) B21.out.2.2 ⟨Nat.le_trans (ddR_len _) (by rw [srtC_len]; exact HI.out.1.1), fun r hr => HI.out.1.2 r (srtC_mem.1 (ddR_mem hr))⟩).mono ?_
        rintro e w22 ⟨rfl, hb⟩
        have B22 := Lib.hid (thn B21.out.1 hb)
        clear hb
        go_wp2_with fail
        refine (awake_any w22 (S.out.2.2.2.2.thn B22.out)).mono ?_
        rintro e w23 ⟨rfl, hb⟩
        have B23 := Lib.hid (thn B3.out (thn B22.out hb))
        clear hb
        go_wp2_with fail
        go_ret
        exact ⟨rfl, B23.out⟩
      · have e2 := N3.out.2.1 hz
        subst e2
        have hz2 : (chkR [a] != 0) = true := by simp [hz]
        have hz3 : (chkR [a] == chkR [a]) = true := by simp
        generalize chkR [a] = k3 at *
        go_wp2_with fail
        refine (awake_any w20 (S.out.2.2.2.2.thn B20.out.1)).mono ?_
        rintro e w23 ⟨rfl, hb⟩
        have B23 := Lib.hid (thn B3.out (thn B20.out.1 hb))
        clear hb
        go_wp2_with fail
        go_ret
        exact ⟨rfl, B23.out⟩
    · have e1 := N2.out.2.1 hy
      subst e1
      have hy2 : (chkR [a, [x]] != 0) = true := by simp [hy]
      have hy3 : (chkR [a, [x]] != chkR [a, [x]]) = false := by simp
      generalize chkR [a, [x]] = k2 at *
      go_wp2_with fail
      refine (RList_any A1 none c1 0 a [] w10 (S.out.1.below B10.out.1 B10.out.1.size) (LReads.nil_ _ _ _) HI.out.1.fit ⟨by simp, fun r h => by simp at h⟩).mono ?_
      rintro e w20 ⟨rfl, hb⟩
      have B20 := Lib.hid (And.intro (thn B10.out.1 hb) (thn B10.out.2 hb))
      clear hb
      rw [chkR_one]
      by_cases hz : chkR [a] = 0
      · have e2 := N3.out.1 hz
        have HD := Lib.hid e2.2
        obtain ⟨en, -⟩ := e2
        subst en
        rw [hz]
        go_wp2_with fail
        refine (RDistinct_any A1 c1 a w20 (S.out.1.below B20.out.1 B20.out.1.size) (fun r h => ⟨by have := HI.out.2.2.1 r h; omega, fun v hv => ((HI.out.1.2 r h).2 v hv).1⟩) HI.out.2.2.2.2.1 (by omega)).mono ?_
        rintro e w21 ⟨A21, c21, rfl, hl, hb⟩
        have B21 := Lib.hid (And.intro (thn B20.out.1 hb) (And.intro (thn B20.out.2 hb) hl))
        clear hl hb
        go_wp2_with fail
        refine (REqual_same Ad A21 cd c21 (ddR (canon a)) w21 (HD.out.below B21.out.2.1 B21.out.2.1.size) B21.out.2.2 ⟨Nat.le_trans (ddR_len _) (by rw [srtC_len]; exact HI.out.1.1), fun r hr => HI.out.1.2 r (srtC_mem.1 (ddR_mem hr))⟩).mono ?_
        rintro e w22 ⟨rfl, hb⟩
        have B22 := Lib.hid (thn B21.out.1 hb)
        clear hb
        go_wp2_with fail
        refine (awake_any w22 (S.out.2.2.2.2.thn B22.out)).mono ?_
        rintro e w23 ⟨rfl, hb⟩
        have B23 := Lib.hid (thn B3.out (thn B22.out hb))
        clear hb
        go_wp2_with fail
        go_ret
        exact ⟨rfl, B23.out⟩
      · have e2 := N3.out.2.1 hz
        subst e2
        have hz2 : (chkR [a] != 0) = true := by simp [hz]
        have hz3 : (chkR [a] == chkR [a]) = true := by simp
        generalize chkR [a] = k3 at *
        go_wp2_with fail
        refine (awake_any w20 (S.out.2.2.2.2.thn B20.out.1)).mono ?_
        rintro e w23 ⟨rfl, hb⟩
        have B23 := Lib.hid (thn B3.out (thn B20.out.1 hb))
        clear hb
        go_wp2_with fail
        go_ret
        exact ⟨rfl, B23.out⟩
  · have e1 := N1.out.2.1 hk
    subst e1
    have hk2 : (chkR [a, b] != 0) = true := by simp [hk]
    have hk3 : (chkR [a, b] != chkR [a, b]) = false := by simp
    generalize chkR [a, b] = k1 at *
    go_wp2_with fail
    have p1 := Blk.new w7 34 #[.slice A3 x.length c3]
    have p2 : Below w7.heap.size w7 (w7.alloc (.cells #[.slice A3 x.length c3] 34)) := al (Below.refl _ _) _
    have p4 := thn B7.out.1 p2
    have p3 := rows_one p1 S.out.2.2.2.1 (S.out.2.2.1.below p4 p4.size)
    refine (RList_any A1 _ c1 1 a [x] _ (S.out.1.below p4 p4.size) p3 HI.out.1.fit HI.out.2.2.2.2.2.2.1.fit).mono ?_
    rintro e w10 ⟨rfl, hb⟩
    have B10 := Lib.hid (And.intro (thn p4 hb) (thn (thn B7.out.2 p2) hb))
    clear p1 p2 p3 p4 hb
    by_cases hy : chkR [a, [x]] = 0
    · have e1 := Lib.hid (N2.out.1 hy)
      rw [hy]
      go_wp2_with fail
      refine (RTimes_any A1 A3 c1 c3 a x w10 (S.out.1.below B10.out.1 B10.out.1.size) (S.out.2.2.1.below B10.out.1 B10.out.1.size) (fun r h => ⟨(HI.out.1.2 r h).1, fun v hv => ((HI.out.1.2 r h).2 v hv).1⟩) HI.out.2.2.2.2.2.2.2.1.fit HI.out.2.2.2.2.2.2.2.1.1 (by omega)).mono ?_
      rintro e w11 ⟨rfl, hb⟩
      have B11 := Lib.hid (And.intro (thn B10.out.1 hb) (thn B10.out.2 hb))
      clear hb
      rw [← e1.out]
      have hne : (n != n) = false := by simp
      go_wp2_with fail
      refine (RList_any A1 none c1 0 a [] w11 (S.out.1.below B11.out.1 B11.out.1.size) (LReads.nil_ _ _ _) HI.out.1.fit ⟨by simp, fun r h => by simp at h⟩).mono ?_
      rintro e w20 ⟨rfl, hb⟩
      have B20 := Lib.hid (And.intro (thn B11.out.1 hb) (thn B11.out.2 hb))
      clear hb
      rw [chkR_one]
      by_cases hz : chkR [a] = 0
      · have e2 := N3.out.1 hz
        have HD := Lib.hid e2.2
        obtain ⟨en, -⟩ := e2
        subst en
        rw [hz]
        go_wp2_with fail
        refine (RDistinct_any A1 c1 a w20 (S.out.1.below B20.out.1 B20.out.1.size) (fun r h => ⟨by have := HI.out.2.2.1 r h; omega, fun v hv => ((HI.out.1.2 r h).2 v hv).1⟩) HI.out.2.2.2.2.1 (by omega)).mono ?_
        rintro e w21 ⟨A21, c21, rfl, hl, hb⟩
        have B21 := Lib.hid (And.intro (thn B20.out.1 hb) (And.intro (thn B20.out.2 hb) hl))
        clear hl hb
        go_wp2_with fail
        refine (REqual_same Ad A21 cd c21 (ddR (canon a)) w21 (HD.out.below B21.out.2.1 B21.out.2.1.size) B21.out.2.2 ⟨Nat.le_trans (ddR_len _) (by rw [srtC_len]; exact HI.out.1.1), fun r hr => HI.out.1.2 r (srtC_mem.1 (ddR_mem hr))⟩).mono ?_
        rintro e w22 ⟨rfl, hb⟩
        have B22 := Lib.hid (thn B21.out.1 hb)
        clear hb
        go_wp2_with fail
        refine (awake_any w22 (S.out.2.2.2.2.thn B22.out)).mono ?_
        rintro e w23 ⟨rfl, hb⟩
        have B23 := Lib.hid (thn B3.out (thn B22.out hb))
        clear hb
        go_wp2_with fail
        go_ret
        exact ⟨rfl, B23.out⟩
      · have e2 := N3.out.2.1 hz
        subst e2
        have hz2 : (chkR [a] != 0) = true := by simp [hz]
        have hz3 : (chkR [a] == chkR [a]) = true := by simp
        generalize chkR [a] = k3 at *
        go_wp2_with fail
        refine (awake_any w20 (S.out.2.2.2.2.thn B20.out.1)).mono ?_
        rintro e w23 ⟨rfl, hb⟩
        have B23 := Lib.hid (thn B3.out (thn B20.out.1 hb))
        clear hb
        go_wp2_with fail
        go_ret
        exact ⟨rfl, B23.out⟩
    · have e1 := N2.out.2.1 hy
      subst e1
      have hy2 : (chkR [a, [x]] != 0) = true := by simp [hy]
      have hy3 : (chkR [a, [x]] != chkR [a, [x]]) = false := by simp
      generalize chkR [a, [x]] = k2 at *
      go_wp2_with fail
      refine (RList_any A1 none c1 0 a [] w10 (S.out.1.below B10.out.1 B10.out.1.size) (LReads.nil_ _ _ _) HI.out.1.fit ⟨by simp, fun r h => by simp at h⟩).mono ?_
      rintro e w20 ⟨rfl, hb⟩
      have B20 := Lib.hid (And.intro (thn B10.out.1 hb) (thn B10.out.2 hb))
      clear hb
      rw [chkR_one]
      by_cases hz : chkR [a] = 0
      · have e2 := N3.out.1 hz
        have HD := Lib.hid e2.2
        obtain ⟨en, -⟩ := e2
        subst en
        rw [hz]
        go_wp2_with fail
        refine (RDistinct_any A1 c1 a w20 (S.out.1.below B20.out.1 B20.out.1.size) (fun r h => ⟨by have := HI.out.2.2.1 r h; omega, fun v hv => ((HI.out.1.2 r h).2 v hv).1⟩) HI.out.2.2.2.2.1 (by omega)).mono ?_
        rintro e w21 ⟨A21, c21, rfl, hl, hb⟩
        have B21 := Lib.hid (And.intro (thn B20.out.1 hb) (And.intro (thn B20.out.2 hb) hl))
        clear hl hb
        go_wp2_with fail
        refine (REqual_same Ad A21 cd c21 (ddR (canon a)) w21 (HD.out.below B21.out.2.1 B21.out.2.1.size) B21.out.2.2 ⟨Nat.le_trans (ddR_len _) (by rw [srtC_len]; exact HI.out.1.1), fun r hr => HI.out.1.2 r (srtC_mem.1 (ddR_mem hr))⟩).mono ?_
        rintro e w22 ⟨rfl, hb⟩
        have B22 := Lib.hid (thn B21.out.1 hb)
        clear hb
        go_wp2_with fail
        refine (awake_any w22 (S.out.2.2.2.2.thn B22.out)).mono ?_
        rintro e w23 ⟨rfl, hb⟩
        have B23 := Lib.hid (thn B3.out (thn B22.out hb))
        clear hb
        go_wp2_with fail
        go_ret
        exact ⟨rfl, B23.out⟩
      · have e2 := N3.out.2.1 hz
        subst e2
        have hz2 : (chkR [a] != 0) = true := by simp [hz]
        have hz3 : (chkR [a] == chkR [a]) = true := by simp
        generalize chkR [a] = k3 at *
        go_wp2_with fail
        refine (awake_any w20 (S.out.2.2.2.2.thn B20.out.1)).mono ?_
        rintro e w23 ⟨rfl, hb⟩
        have B23 := Lib.hid (thn B3.out (thn B20.out.1 hb))
        clear hb
        go_wp2_with fail
        go_ret
        exact ⟨rfl, B23.out⟩
end Go.Proofs.YtapnnheggjahlaaGreatDoor
