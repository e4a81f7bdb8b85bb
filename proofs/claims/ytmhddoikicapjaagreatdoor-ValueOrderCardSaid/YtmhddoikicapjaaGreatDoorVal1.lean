/-
  CONTRACTS of package value: isText, isValue.
-/
import Derived.Test.YtmhddoikicapjaaGreatDoorPlain
import Derived.WalkKit
import Derived.WalkSpells
import Derived.WalkLawsBesides
import Derived.Deep.QuietTactic
import Derived.BigQuiet
import Derived.Deep.Light
namespace Go.Proofs.YtmhddoikicapjaaGreatDoor
open Go.RowKit

theorem ret_bool {a b : Bool} (h : a = b) : Ending.returned (.bool a) = .returned (.bool b) := by rw [h]

set_option maxHeartbeats 400000 in
theorem isText_any (s : ByteArray) (w : World) (hs : s.size ≤ maxLen) :
    Calls Tryz.prog 44 #[.string s] w fun e w' => e = .returned (.bool (okText s.data.toList)) ∧ w = w' := by
  unfold maxLen at hs
  by_cases hl : s.size ≤ 200
  · have hsz : decide ((200 : Int) < (s.size : Int)) = false := by simp; omega
    go_enter Tryz.func44, Tryz.ntmps44
    go_wp2
    go_loop [3, 9] (fun _ i => ∃ k : Nat, k ≤ s.size ∧ i = .int .i64 k ∧ okBytes (s.data.toList.take k) = true) (fun _ i => s.size - (intOf i).toNat)
    case atStart => exact ⟨0, Nat.zero_le _, rfl, rfl⟩
    case round =>
      obtain ⟨k, hk, rfl, hr⟩ := hrel
      have HK := Lib.hid hr
      clear hr
      by_cases hlt : k < s.size
      · have hst := okBytes_snoc (s.data.toList.take k) s[k]
        rw [← take_snoc s k hlt, HK.out] at hst
        have HS := Lib.hid hst
        clear hst
        by_cases hc : okByte s[k] = true
        · obtain ⟨hc1, hc2⟩ := (okByte_iff _).1 hc
          have HC := Lib.hid hc
          clear hc
          go_wp2
          go_round
          case rel => exact ⟨k + 1, by omega, by go_num, by rw [HS.out, HC.out]; rfl⟩
          case measure => simp [intOf]; omega
        · have hc0 : okByte s[k] = false := by simpa using hc
          have HB := Lib.hid (okText_bad s k hlt hc0)
          have hcc := (okByte_no _).1 hc0
          clear hc hc0
          go_wp2
          all_goals (first | (exfalso; omega) | (go_ret; exact ⟨ret_bool HB.out.symm, rfl⟩))
      · go_wp2
        go_ret
        have e : okText s.data.toList = true := by
          have h2 := HK.out
          rw [List.take_of_length_le (by simp; omega)] at h2
          unfold okText; rw [h2]; simp; omega
        exact ⟨ret_bool e.symm, rfl⟩
  · have hsz : decide ((200 : Int) < (s.size : Int)) = true := by simp; omega
    have hres : okText s.data.toList = false := by unfold okText; simp; omega
    have HR := Lib.hid hres
    clear hres
    go_enter Tryz.func44, Tryz.ntmps44
    go_wp2
    go_ret
    exact ⟨ret_bool HR.out.symm, rfl⟩

set_option maxHeartbeats 400000 in
theorem isValue_any (k n : Int) (s : ByteArray) (w : World) (hs : s.size ≤ maxLen) :
    Calls Tryz.prog 32 #[.agg #[.int .i64 k, .int .i64 n, .string s]] w fun e w' => e = .returned (.bool (okVal k n s.data.toList)) ∧ Below w.heap.size w w' := by
  go_enter Tryz.func32, Tryz.ntmps32
  go_wp2_with (go_at_call 44; refine (isText_any _ _ hs).mono ?_; rintro e w' ⟨rfl, rfl⟩)
  all_goals go_ret
  all_goals (refine ⟨ret_bool (a := _) ?_, (Below.refl _ _).alloc (Nat.le_refl _) _⟩; go_light; simp_all [okVal, ByteArray.toList_eq])

end Go.Proofs.YtmhddoikicapjaaGreatDoor
