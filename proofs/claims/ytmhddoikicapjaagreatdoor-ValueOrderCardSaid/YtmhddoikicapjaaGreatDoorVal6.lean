/-
  CONTRACTS: cmp.isNaN, cmp.Compare at Kind and int64.
-/
import Derived.Test.YtmhddoikicapjaaGreatDoorVal5
namespace Go.Proofs.YtmhddoikicapjaaGreatDoor
open Go.RowKit

def cmpI (a b : Int) : Int := if a < b then -1 else if b < a then 1 else 0
theorem cmpI_lt {a b : Int} (h : a < b) : cmpI a b = -1 := by unfold cmpI; rw [if_pos h]
theorem cmpI_gt {a b : Int} (h : b < a) : cmpI a b = 1 := by unfold cmpI; rw [if_neg (by omega), if_pos h]
theorem cmpI_eq {a b : Int} (h : a = b) : cmpI a b = 0 := by unfold cmpI; rw [if_neg (by omega), if_neg (by omega)]

theorem isNaN_kind (a : Int) (w : World) : Calls Tryz.prog 47 #[.int .i64 a] w fun e w' => e = .returned (.bool false) ∧ w = w' := by
  go_enter Tryz.func47, Tryz.ntmps47
  go_wp2
  go_ret
  exact ⟨rfl, rfl⟩
set_option maxHeartbeats 400000 in
theorem compare_kind (a b : Int) (w : World) : Calls Tryz.prog 35 #[.int .i64 a, .int .i64 b] w fun e w' => e = .returned (.int .i64 (cmpI a b)) ∧ w = w' := by
  by_cases h1 : a < b
  · have HR := Lib.hid (cmpI_lt h1)
    go_enter Tryz.func35, Tryz.ntmps35
    go_wp2_with (go_at_call 47; refine (isNaN_kind _ _).mono ?_; rintro e w1 ⟨rfl, rfl⟩)
    go_ret
    exact ⟨ret_int HR.out.symm, rfl⟩
  · by_cases h2 : b < a
    · have HR := Lib.hid (cmpI_gt h2)
      go_enter Tryz.func35, Tryz.ntmps35
      go_wp2_with (go_at_call 47; refine (isNaN_kind _ _).mono ?_; rintro e w1 ⟨rfl, rfl⟩)
      go_ret
      exact ⟨ret_int HR.out.symm, rfl⟩
    · have HR := Lib.hid (cmpI_eq (a := a) (b := b) (by omega))
      go_enter Tryz.func35, Tryz.ntmps35
      go_wp2_with (go_at_call 47; refine (isNaN_kind _ _).mono ?_; rintro e w1 ⟨rfl, rfl⟩)
      go_ret
      exact ⟨ret_int HR.out.symm, rfl⟩
theorem isNaN_i64 (a : Int) (w : World) : Calls Tryz.prog 48 #[.int .i64 a] w fun e w' => e = .returned (.bool false) ∧ w = w' := by
  go_enter Tryz.func48, Tryz.ntmps48
  go_wp2
  go_ret
  exact ⟨rfl, rfl⟩
set_option maxHeartbeats 400000 in
theorem compare_i64 (a b : Int) (w : World) : Calls Tryz.prog 36 #[.int .i64 a, .int .i64 b] w fun e w' => e = .returned (.int .i64 (cmpI a b)) ∧ w = w' := by
  by_cases h1 : a < b
  · have HR := Lib.hid (cmpI_lt h1)
    go_enter Tryz.func36, Tryz.ntmps36
    go_wp2_with (go_at_call 48; refine (isNaN_i64 _ _).mono ?_; rintro e w1 ⟨rfl, rfl⟩)
    go_ret
    exact ⟨ret_int HR.out.symm, rfl⟩
  · by_cases h2 : b < a
    · have HR := Lib.hid (cmpI_gt h2)
      go_enter Tryz.func36, Tryz.ntmps36
      go_wp2_with (go_at_call 48; refine (isNaN_i64 _ _).mono ?_; rintro e w1 ⟨rfl, rfl⟩)
      go_ret
      exact ⟨ret_int HR.out.symm, rfl⟩
    · have HR := Lib.hid (cmpI_eq (a := a) (b := b) (by omega))
      go_enter Tryz.func36, Tryz.ntmps36
      go_wp2_with (go_at_call 48; refine (isNaN_i64 _ _).mono ?_; rintro e w1 ⟨rfl, rfl⟩)
      go_ret
      exact ⟨ret_int HR.out.symm, rfl⟩
end Go.Proofs.YtmhddoikicapjaaGreatDoor
