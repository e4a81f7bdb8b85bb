/-
  THE WALK of RowsSets.
-/
import Derived.Test.YtapnnheggjahlaaGreatDoorLRO
import Derived.Test.YtapnnheggjahlaaGreatDoorRfS
namespace Go.Proofs.YtapnnheggjahlaaGreatDoor
open Go.RowKit

theorem Both_any (A A' : Option Addr) (c c' : Nat) (L L2 : List (List V)) (all : Bool) (w : World) (hG : G w) (hr : LReads w w.heap.size A L) (hr2 : LReads w w.heap.size A' L2) (hi : InL L) (hi2 : InL L2) :
    Calls Tryz.prog 35 #[.slice A L.length c, .slice A' L2.length c', .bool all] w fun e w' => ∃ (Ao : Option Addr) (no co : Nat), e = .returned (.tuple #[.slice Ao no co, .int .i64 (chkR [L, L2])]) ∧ (chkR [L, L2] = 0 → no = (bothR all L L2).length ∧ LReads w' w'.heap.size Ao (bothR all L L2)) ∧ (chkR [L, L2] ≠ 0 → no = 0) ∧ Below w.heap.size w w' := by
  by_cases h0 : chkR [L, L2] = 0
  · have f1 := (fine_of h0 (L := L) (by simp) hi).1
    have f2 := (fine_of h0 (L := L2) (by simp) hi2).1
    refine (Both_ok A A' c c' L L2 all w hG hr hr2 hi hi2 h0).mono fun e w' ⟨v, h1, h2, h3⟩ => ?_
    rw [both_choose all f1 f2] at h2
    obtain ⟨Ao, co, rfl, hl⟩ := OutR.lreads h2
    exact ⟨Ao, _, co, by rw [h0]; exact h1, fun _ => ⟨rfl, hl⟩, fun h => absurd h0 h, h3⟩
  · exact (Both_err A A' c c' L L2 all w hr hr2 hi hi2 h0).mono fun e w' ⟨h1, h2⟩ => ⟨_, _, _, h1, fun h => absurd h h0, fun _ => rfl, h2⟩
theorem Minus_any (A A' : Option Addr) (c c' : Nat) (L L2 : List (List V)) (all : Bool) (w : World) (hG : G w) (hr : LReads w w.heap.size A L) (hr2 : LReads w w.heap.size A' L2) (hi : InL L) (hi2 : InL L2) :
    Calls Tryz.prog 36 #[.slice A L.length c, .slice A' L2.length c', .bool all] w fun e w' => ∃ (Ao : Option Addr) (no co : Nat), e = .returned (.tuple #[.slice Ao no co, .int .i64 (chkR [L, L2])]) ∧ (chkR [L, L2] = 0 → no = (minusR all L L2).length ∧ LReads w' w'.heap.size Ao (minusR all L L2)) ∧ (chkR [L, L2] ≠ 0 → no = 0) ∧ Below w.heap.size w w' := by
  by_cases h0 : chkR [L, L2] = 0
  · have f1 := (fine_of h0 (L := L) (by simp) hi).1
    have f2 := (fine_of h0 (L := L2) (by simp) hi2).1
    refine (Minus_ok A A' c c' L L2 all w hG hr hr2 hi hi2 h0).mono fun e w' ⟨v, h1, h2, h3⟩ => ?_
    rw [minus_choose all f1 f2] at h2
    obtain ⟨Ao, co, rfl, hl⟩ := OutR.lreads h2
    exact ⟨Ao, _, co, by rw [h0]; exact h1, fun _ => ⟨rfl, hl⟩, fun h => absurd h0 h, h3⟩
  · exact (Minus_err A A' c c' L L2 all w hr hr2 hi hi2 h0).mono fun e w' ⟨h1, h2⟩ => ⟨_, _, _, h1, fun h => absurd h h0, fun _ => rfl, h2⟩

set_option maxHeartbeats 4000000 in
theorem RowsSets_any (A A' : Option Addr) (c c' : Nat) (L L2 : List (List V)) (all : Bool) (w : World) (hG : G w) (hl : LReads0 w w.heap.size A L) (hl2 : LReads0 w w.heap.size A' L2) (hL : InL L) (hL2 : InL L2) :
    Calls Tryz.prog 6 #[.slice A L.length c, .slice A' L2.length c', .bool all] w fun e w' => e = .returned (.bool true) ∧ Below w.heap.size w w' := by
  have HG := Lib.hid hG
  have HA := Lib.hid (And.intro hl hl2)
  have HF := Lib.hid (And.intro hL hL2)
  clear hG hl hl2 hL hL2
  go_enter Tryz.func6, Tryz.ntmps6
  go_wp2_with fail
  refine (CutL_any 30 A c L w HA.out.1 HF.out.1.fit (by omega)).mono ?_
  rintro e w1 ⟨v1, vs1, rfl, ho, hrs, _, hb⟩
  obtain ⟨A1, c1, rfl, hl1⟩ := OutR.lreads ⟨vs1, ho, hrs⟩
  have hcap := own_cap ho
  have X := Lib.hid (And.intro hl1 (And.intro hb hcap))
  clear ho hrs hl1 hb hcap
  go_wp2_with fail
  refine (CutL_any 30 A' c' L2 w1 (HA.out.2.below X.out.2.1 X.out.2.1.size) HF.out.2.fit (by omega)).mono ?_
  rintro e w2 ⟨v2, vs2, rfl, ho, hrs, _, hb⟩
  obtain ⟨A2, c2, rfl, hl2⟩ := OutR.lreads ⟨vs2, ho, hrs⟩
  have hcap := own_cap ho
  have Y := Lib.hid (And.intro hl2 (And.intro (thn X.out.2.1 hb) hcap))
  have S := Lib.hid (And.intro (X.out.1.below hb hb.size) (And.intro hl2 (HG.out.thn (thn X.out.2.1 hb))))
  have B2 := Lib.hid (thn X.out.2.1 hb)
  have HI : Hid (InL (cutL 30 L) ∧ InL (cutL 30 L2) ∧ (∀ r ∈ cutL 30 L, r.length ≤ 18) ∧ (∀ r ∈ cutL 30 L2, r.length ≤ 18) ∧ (cutL 30 L).length ≤ c1 ∧ (cutL 30 L2).length ≤ c2 ∧ (cutL 30 L).length ≤ 30 ∧ (cutL 30 L2).length ≤ 30) :=
    ⟨HF.out.1.cutL, HF.out.2.cutL, cutL_rows, cutL_rows, X.out.2.2, hcap, cutL_len 30 L, cutL_len 30 L2⟩
  have l1 := cutL_len 30 L
  have l2 := cutL_len 30 L2
  clear ho hrs hl2 hb hcap X Y HA HF HG
  generalize cutL 30 L = a at *
  generalize cutL 30 L2 = b at *
  go_wp2_with fail
  refine (Both_any A1 A2 c1 c2 a b all w2 S.out.2.2 S.out.1 S.out.2.1 HI.out.1 HI.out.2.1).mono ?_
  rintro e w3 ⟨Ao, no, co, rfl, hn, hn', hb⟩
  have N1 := Lib.hid (And.intro hn (And.intro hn' hb))
  clear hn hn' hb
  go_wp2_with fail
  refine (Minus_any A1 A2 c1 c2 a b all w3 (S.out.2.2.thn N1.out.2.2) (S.out.1.below N1.out.2.2 N1.out.2.2.size) (S.out.2.1.below N1.out.2.2 N1.out.2.2.size) HI.out.1 HI.out.2.1).mono ?_
  rintro e w4 ⟨Ap, np, cp, rfl, hn, hn', hb⟩
  have N2 := Lib.hid (And.intro hn (And.intro hn' hb))
  have B4 := Lib.hid (thn N1.out.2.2 hb)
  clear hn hn' hb
  go_wp2_with fail
  refine (RList_any A1 A2 c1 c2 a b w4 (S.out.1.below B4.out B4.out.size) (S.out.2.1.below B4.out B4.out.size) HI.out.1.fit HI.out.2.1.fit).mono ?_
  rintro e w5 ⟨rfl, hb⟩
  have B5 := Lib.hid (And.intro (thn B4.out hb) (thn N2.out.2.2 hb))
  have hb5 := Lib.hid hb
  clear hb
  by_cases hk : chkR [a, b] = 0
  · have e1 := N1.out.1 hk
    have e2 := N2.out.1 hk
    have HB1 := Lib.hid (And.intro (e1.2.below B5.out.2 B5.out.2.size) (e2.2.below hb5.out hb5.out.size))
    obtain ⟨en, -⟩ := e1
    obtain ⟨ep, -⟩ := e2
    have HL1 := Lib.hid (And.intro (bothR_len all a b) (And.intro (minusR_len all a b) (And.intro (fun r h => bothR_mem (all := all) (a := a) (b := b) (x := r) h) (fun r h => minusR_mem (all := all) (a := a) (b := b) (x := r) h))))
    rw [hk]
    subst en ep
    clear hk
    go_wp2_with fail
    refine (RBoth_any A1 A2 c1 c2 a b all w5 (S.out.1.below B5.out.1 B5.out.1.size) (S.out.2.1.below B5.out.1 B5.out.1.size) (fun r h => ⟨by have := HI.out.2.2.1 r h; omega, fun v hv => ((HI.out.1.2 r h).2 v hv).1⟩) (fun r h => ⟨by have := HI.out.2.2.2.1 r h; omega, fun v hv => ((HI.out.2.1.2 r h).2 v hv).1⟩) HI.out.2.2.2.2.1 (by omega) (by omega)).mono ?_
    rintro e w6 ⟨A6, c6, rfl, hl, hb⟩
    have B6 := Lib.hid (And.intro (thn B5.out.1 hb) (And.intro (HB1.out.1.below hb hb.size) (And.intro hl (HB1.out.2.below hb hb.size))))
    clear hl hb
    go_wp2_with fail
    refine (REqual_same Ao A6 co c6 (bothR all a b) w6 B6.out.2.1 B6.out.2.2.1 ⟨by have := HL1.out.1; unfold maxLen; omega, fun r hr => HI.out.1.2 r (HL1.out.2.2.1 r hr)⟩).mono ?_
    rintro e w7 ⟨rfl, hb⟩
    have B7 := Lib.hid (And.intro (thn B6.out.1 hb) (B6.out.2.2.2.below hb hb.size))
    clear hb
    go_wp2_with fail
    refine (RMinus_any A1 A2 c1 c2 a b all w7 (S.out.1.below B7.out.1 B7.out.1.size) (S.out.2.1.below B7.out.1 B7.out.1.size) (fun r h => ⟨by have := HI.out.2.2.1 r h; omega, fun v hv => ((HI.out.1.2 r h).2 v hv).1⟩) (fun r h => ⟨by have := HI.out.2.2.2.1 r h; omega, fun v hv => ((HI.out.2.1.2 r h).2 v hv).1⟩) HI.out.2.2.2.2.1 (by omega) (by omega)).mono ?_
    rintro e w8 ⟨A8, c8, rfl, hl, hb⟩
    have B8 := Lib.hid (And.intro (thn B7.out.1 hb) (And.intro (B7.out.2.below hb hb.size) hl))
    clear hl hb
    go_wp2_with fail
    refine (REqual_same Ap A8 cp c8 (minusR all a b) w8 B8.out.2.1 B8.out.2.2 ⟨by have := HL1.out.2.1; unfold maxLen; omega, fun r hr => HI.out.1.2 r (HL1.out.2.2.2 r hr)⟩).mono ?_
    rintro e w9 ⟨rfl, hb⟩
    have B9 := Lib.hid (thn B8.out.1 hb)
    clear hb
    go_wp2_with fail
    refine (awake_any w9 (S.out.2.2.thn B9.out)).mono ?_
    rintro e w12 ⟨rfl, hb⟩
    have B12 := Lib.hid (thn B2.out (thn B9.out hb))
    clear hb
    go_wp2_with fail
    go_ret
    exact ⟨rfl, B12.out⟩
  · have e1 := N1.out.2.1 hk
    have e2 := N2.out.2.1 hk
    subst e1 e2
    have hj2 : (chkR [a, b] != 0) = true := by simp [hk]
    have hj3 : (chkR [a, b] == chkR [a, b]) = true := by simp
    generalize chkR [a, b] = k2 at *
    go_wp2_with fail
    refine (awake_any w5 (S.out.2.2.thn B5.out.1)).mono ?_
    rintro e w12 ⟨rfl, hb⟩
    have B12 := Lib.hid (thn B2.out (thn B5.out.1 hb))
    clear hb
    go_wp2_with fail
    go_ret
    exact ⟨rfl, B12.out⟩
end Go.Proofs.YtapnnheggjahlaaGreatDoor
