/-
  CONTRACTS of the reference: Null, Int, Bool, Text, Not, printable, Right, AllRight, List.
-/
import Derived.Test.YtmhddoikicapjaaGreatDoorVal5
namespace Go.Proofs.YtmhddoikicapjaaGreatDoor
open Go.RowKit

set_option maxHeartbeats 400000 in
theorem rNull_any (w : World) :
    Calls Tryz.prog 24 #[] w fun e w' => e = .returned (.agg #[.int .i64 0, .int .i64 0, .string ⟨#[]⟩]) ∧ Below w.heap.size w w' := by
  go_enter Tryz.func24, Tryz.ntmps24
  go_wp2
  exact bodyPost_ret (v := .agg #[.int .i64 0, .int .i64 0, .string ⟨#[]⟩]) (by simp [results, Tryz.results24, go_sem]) rfl ⟨rfl, al (Below.refl _ _) _⟩
set_option maxHeartbeats 400000 in
theorem rInt_any (n : Int) (w : World) :
    Calls Tryz.prog 17 #[.int .i64 n] w fun e w' => e = .returned (.agg #[.int .i64 1, .int .i64 n, .string ⟨#[]⟩]) ∧ Below w.heap.size w w' := by
  go_enter Tryz.func17, Tryz.ntmps17
  go_wp2
  exact bodyPost_ret (v := .agg #[.int .i64 1, .int .i64 n, .string ⟨#[]⟩]) (by simp [results, Tryz.results17, go_sem]) rfl ⟨rfl, al (Below.refl _ _) _⟩
set_option maxHeartbeats 400000 in
theorem rText_any (s : ByteArray) (w : World) :
    Calls Tryz.prog 26 #[.string s] w fun e w' => e = .returned (.agg #[.int .i64 3, .int .i64 0, .string s]) ∧ Below w.heap.size w w' := by
  go_enter Tryz.func26, Tryz.ntmps26
  go_wp2
  exact bodyPost_ret (v := .agg #[.int .i64 3, .int .i64 0, .string s]) (by simp [results, Tryz.results26, go_sem]) rfl ⟨rfl, al (Below.refl _ _) _⟩
set_option maxHeartbeats 400000 in
theorem rBool_any (x : Bool) (w : World) :
    Calls Tryz.prog 29 #[.bool x] w fun e w' => e = .returned (.agg #[.int .i64 2, .int .i64 (b2i x), .string ⟨#[]⟩]) ∧ Below w.heap.size w w' := by
  cases x
  · go_enter Tryz.func29, Tryz.ntmps29
    go_wp2
    exact bodyPost_ret (v := .agg #[.int .i64 2, .int .i64 0, .string ⟨#[]⟩]) (by simp [results, Tryz.results29, go_sem]) rfl ⟨rfl, (Below.refl _ _).alloc (Nat.le_refl _) _⟩
  · go_enter Tryz.func29, Tryz.ntmps29
    go_wp2
    exact bodyPost_ret (v := .agg #[.int .i64 2, .int .i64 1, .string ⟨#[]⟩]) (by simp [results, Tryz.results29, go_sem]) rfl ⟨rfl, (Below.refl _ _).alloc (Nat.le_refl _) _⟩

set_option maxHeartbeats 400000 in
theorem printable_any (s : ByteArray) (w : World) (hs : s.size ≤ maxLen) :
    Calls Tryz.prog 50 #[.string s] w fun e w' => e = .returned (.bool (okBytes s.data.toList)) ∧ w = w' := by
  unfold maxLen at hs
  go_enter Tryz.func50, Tryz.ntmps50
  go_wp2
  go_loop [3] (fun i => ∃ k : Nat, k ≤ s.size ∧ i = .int .i64 k ∧ okBytes (s.data.toList.take k) = true) (fun i => s.size - (intOf i).toNat)
  case atStart => exact ⟨0, Nat.zero_le _, rfl, rfl⟩
  case round =>
    obtain ⟨k, hk, rfl, hr⟩ := hrel
    have HK := Lib.hid hr
    clear hr
    by_cases hlt : k < s.size
    · have hst := okBytes_snoc (s.data.toList.take k) s[k]
      rw [← take_snoc s k hlt, HK.out] at hst
      have HS := Lib.hid hst
      clear hst
      by_cases hc : okByte s[k] = true
      · obtain ⟨hc1, hc2⟩ := (okByte_iff _).1 hc
        have HC := Lib.hid hc
        clear hc
        go_wp2
        go_round
        case rel => exact ⟨k + 1, by omega, by go_num, by rw [HS.out, HC.out]; rfl⟩
        case measure => simp [intOf]; omega
      · have hc0 : okByte s[k] = false := by simpa using hc
        have HB := Lib.hid (okBytes_bad s k hlt hc0)
        have hcc := (okByte_no _).1 hc0
        clear hc hc0
        go_wp2
        all_goals (first | (exfalso; omega) | (go_ret; exact ⟨ret_bool HB.out.symm, rfl⟩))
    · go_wp2
      go_ret
      have e : okBytes s.data.toList = true := by
        have h2 := HK.out
        rw [List.take_of_length_le (by simp; omega)] at h2
        exact h2
      exact ⟨ret_bool e.symm, rfl⟩

set_option maxHeartbeats 400000 in
theorem Right_any (k n : Int) (s : ByteArray) (w : World) (hs : s.size ≤ maxLen) :
    Calls Tryz.prog 38 #[.agg #[.int .i64 k, .int .i64 n, .string s]] w fun e w' => e = .returned (.bool (okVal k n s.data.toList)) ∧ Below w.heap.size w w' := by
  go_enter Tryz.func38, Tryz.ntmps38
  go_wp2_with (go_at_call 50; refine (printable_any _ _ hs).mono ?_; rintro e w' ⟨rfl, rfl⟩)
  all_goals go_ret
  all_goals (refine ⟨ret_bool (a := _) ?_, al (Below.refl _ _) _⟩; go_light; simp_all [okVal, okText, ByteArray.toList_eq] <;> (intros; omega))
end Go.Proofs.YtmhddoikicapjaaGreatDoor
