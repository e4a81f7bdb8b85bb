/-
  CONTRACTS of the reference: AllRight, List.
-/
import Derived.Test.YtmhddoikicapjaaGreatDoorRef1
namespace Go.Proofs.YtmhddoikicapjaaGreatDoor
open Go.RowKit

set_option maxHeartbeats 400000 in
theorem AllRight_any (A : Option Addr) (c : Nat) (l : List V) (w : World) (hr : VReads w w.heap.size A l) (hf : VFit l) (hn : l.length ≤ maxLen) :
    Calls Tryz.prog 22 #[.slice A l.length c] w fun e w' => e = .returned (.bool (l.all V.ok)) ∧ Below w.heap.size w w' := by
  unfold maxLen at hn
  go_enter Tryz.func22, Tryz.ntmps22
  go_wp2
  go_loopw [3] (fun i wr => ∃ k : Nat, k ≤ l.length ∧ i = .int .i64 k ∧ Hid ((l.take k).all V.ok = true) ∧ Below w.heap.size w wr) (fun i _ => l.length - (intOf i).toNat)
  case atStart => exact ⟨0, Nat.zero_le _, rfl, rfl, Below.refl _ _⟩
  case round =>
    obtain ⟨k, hk, rfl, hall, hb⟩ := hrel
    by_cases hlt : k < l.length
    · obtain ⟨b, o, rfl, hblk, c0, c1, c2⟩ := (hr.below hb hb.size).at_ hlt
      have hfk := hf l[k] (List.getElem_mem hlt)
      by_cases hok : okVal l[k].k l[k].n l[k].s.data.toList = true
      · have HN := Lib.hid (all_snoc hlt hall.out hok)
        go_wp2_with (go_at_call 38; refine (Right_any _ _ _ _ hfk).mono ?_; rintro e w1 ⟨rfl, hb1⟩)
        go_roundw
        case rel => exact ⟨k + 1, by omega, by go_num, HN, thn hb hb1⟩
        case measure => simp [intOf]; omega
      · have hok0 : okVal l[k].k l[k].n l[k].s.data.toList = false := by simpa using hok
        have HE : Hid (l.all V.ok = false) := List.all_eq_false.2 ⟨l[k], List.getElem_mem hlt, by unfold V.ok; rw [hok0]; simp⟩
        clear hok
        go_wp2_with (go_at_call 38; refine (Right_any _ _ _ _ hfk).mono ?_; rintro e w1 ⟨rfl, hb1⟩)
        go_ret
        exact ⟨ret_bool HE.out.symm, thn hb hb1⟩
    · go_wp2
      go_ret
      refine ⟨ret_bool ?_, hb⟩
      have h2 := hall.out
      rw [List.take_of_length_le (by omega)] at h2
      exact h2.symm
set_option maxHeartbeats 400000 in
theorem List_any (A : Option Addr) (c : Nat) (l : List V) (w : World) (hr : VReads w w.heap.size A l) (hf : VFit l) (hn : l.length ≤ maxLen) :
    Calls Tryz.prog 10 #[.slice A l.length c] w fun e w' => e = .returned (.int .i64 (chk l)) ∧ Below w.heap.size w w' := by
  have hn' := hn
  unfold maxLen at hn
  by_cases hl : l.length ≤ 20000
  · have hsz : decide ((20000 : Int) < (l.length : Int)) = false := by simp; omega
    by_cases ha : l.all V.ok = true
    · have HE := Lib.hid (chk_good hl ha)
      have HA := Lib.hid ha
      clear ha
      go_enter Tryz.func10, Tryz.ntmps10
      go_wp2_with fail
      refine (AllRight_any _ _ l _ hr hf hn').mono ?_
      rintro e w1 ⟨rfl, hb1⟩
      rw [HA.out]
      go_wp2_with fail
      go_ret
      exact ⟨ret_int HE.out.symm, hb1⟩
    · have ha0 : l.all V.ok = false := by simpa using ha
      have HE : Hid (chk l = 10) := by show chk l = 10; unfold chk; rw [if_neg (by omega), ha0]; rfl
      have HA := Lib.hid ha0
      clear ha ha0
      go_enter Tryz.func10, Tryz.ntmps10
      go_wp2_with fail
      refine (AllRight_any _ _ l _ hr hf hn').mono ?_
      rintro e w1 ⟨rfl, hb1⟩
      rw [HA.out]
      go_wp2_with fail
      go_ret
      exact ⟨ret_int HE.out.symm, hb1⟩
  · have hsz : decide ((20000 : Int) < (l.length : Int)) = true := by simp; omega
    have HR := Lib.hid (chk_large hl)
    go_enter Tryz.func10, Tryz.ntmps10
    go_wp2_with fail
    go_ret
    exact ⟨ret_int HR.out.symm, Below.refl _ _⟩
end Go.Proofs.YtmhddoikicapjaaGreatDoor
