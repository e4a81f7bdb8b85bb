/-
  CONTRACTS of the reference: Null, Int, Bool, Text, Not, printable, Right, AllRight, List.
-/
import Derived.Test.YtmbakenfbdbapaaDoorVal5
namespace Go.Proofs.YtmbakenfbdbapaaDoor
open Go.RowKit

set_option maxHeartbeats 400000 in
theorem rNull_any (w : World) :
    Calls Tryd.prog 28 #[] w fun e w' => e = .returned (.agg #[.int .i64 0, .int .i64 0, .string ⟨#[]⟩]) ∧ Below w.heap.size w w' := by
  go_enter Tryd.func28, Tryd.ntmps28
  go_wp2
  exact bodyPost_ret (v := .agg #[.int .i64 0, .int .i64 0, .string ⟨#[]⟩]) (by simp [results, Tryd.results28, go_sem]) rfl ⟨rfl, al (Below.refl _ _) _⟩
set_option maxHeartbeats 400000 in
theorem rInt_any (n : Int) (w : World) :
    Calls Tryd.prog 36 #[.int .i64 n] w fun e w' => e = .returned (.agg #[.int .i64 1, .int .i64 n, .string ⟨#[]⟩]) ∧ Below w.heap.size w w' := by
  go_enter Tryd.func36, Tryd.ntmps36
  go_wp2
  exact bodyPost_ret (v := .agg #[.int .i64 1, .int .i64 n, .string ⟨#[]⟩]) (by simp [results, Tryd.results36, go_sem]) rfl ⟨rfl, al (Below.refl _ _) _⟩
set_option maxHeartbeats 400000 in
theorem rText_any (s : ByteArray) (w : World) :
    Calls Tryd.prog 37 #[.string s] w fun e w' => e = .returned (.agg #[.int .i64 3, .int .i64 0, .string s]) ∧ Below w.heap.size w w' := by
  go_enter Tryd.func37, Tryd.ntmps37
  go_wp2
  exact bodyPost_ret (v := .agg #[.int .i64 3, .int .i64 0, .string s]) (by simp [results, Tryd.results37, go_sem]) rfl ⟨rfl, al (Below.refl _ _) _⟩
set_option maxHeartbeats 400000 in
theorem rBool_any (x : Bool) (w : World) :
    Calls Tryd.prog 29 #[.bool x] w fun e w' => e = .returned (.agg #[.int .i64 2, .int .i64 (b2i x), .string ⟨#[]⟩]) ∧ Below w.heap.size w w' := by
  cases x
  · go_enter Tryd.func29, Tryd.ntmps29
    go_wp2
    exact bodyPost_ret (v := .agg #[.int .i64 2, .int .i64 0, .string ⟨#[]⟩]) (by simp [results, Tryd.results29, go_sem]) rfl ⟨rfl, (Below.refl _ _).alloc (Nat.le_refl _) _⟩
  · go_enter Tryd.func29, Tryd.ntmps29
    go_wp2
    exact bodyPost_ret (v := .agg #[.int .i64 2, .int .i64 1, .string ⟨#[]⟩]) (by simp [results, Tryd.results29, go_sem]) rfl ⟨rfl, (Below.refl _ _).alloc (Nat.le_refl _) _⟩

set_option maxHeartbeats 400000 in
theorem printable_any (s : ByteArray) (w : World) (hs : s.size ≤ maxLen) :
    Calls Tryd.prog 45 #[.string s] w fun e w' => e = .returned (.bool (okBytes s.data.toList)) ∧ w = w' := by
  unfold maxLen at hs
  go_enter Tryd.func45, Tryd.ntmps45
  go_wp2
  go_loop [3] (fun i => ∃ k : Nat, k ≤ s.size ∧ i = .int .i64 k ∧ okBytes (s.data.toList.take k) = true) (fun i => s.size - (intOf i).toNat)
  case atStart => exact ⟨0, Nat.zero_le _, rfl, rfl⟩
  case round =>
    obtain ⟨k, hk, rfl, hr⟩ := hrel
    have HK := Lib.hid hr
    clear hr
    by_cases hlt : k < s.size
    · have hst := okBytes_snoc (s.data.toList.take k) s[k]
      rw [← take_snoc s k hlt, HK.out] at hst
      have HS := Lib.hid hst
      clear hst
      by_cases hc : okByte s[k] = true
      · obtain ⟨hc1, hc2⟩ := (okByte_iff _).1 hc
        have HC := Lib.hid hc
        clear hc
        go_wp2
        go_round
        case rel => exact ⟨k + 1, by omega, by go_num, by rw [HS.out, HC.out]; rfl⟩
        case measure => simp [intOf]; omega
      · have hc0 : okByte s[k] = false := by simpa using hc
        have HB := Lib.hid (okBytes_bad s k hlt hc0)
        have hcc := (okByte_no _).1 hc0
        clear hc hc0
        go_wp2
        all_goals (first | (exfalso; omega) | (go_ret; exact ⟨ret_bool HB.out.symm, rfl⟩))
    · go_wp2
      go_ret
      have e : okBytes s.data.toList = true := by
        have h2 := HK.out
        rw [List.take_of_length_le (by simp; omega)] at h2
        exact h2
      exact ⟨ret_bool e.symm, rfl⟩

set_option maxHeartbeats 400000 in
theorem Right_any (k n : Int) (s : ByteArray) (w : World) (hs : s.size ≤ maxLen) :
    Calls Tryd.prog 27 #[.agg #[.int .i64 k, .int .i64 n, .string s]] w fun e w' => e = .returned (.bool (okVal k n s.data.toList)) ∧ Below w.heap.size w w' := by
  go_enter Tryd.func27, Tryd.ntmps27
  go_wp2_with (go_at_call 45; refine (printable_any _ _ hs).mono ?_; rintro e w' ⟨rfl, rfl⟩)
  all_goals go_ret
  all_goals (refine ⟨ret_bool (a := _) ?_, al (Below.refl _ _) _⟩; go_light; simp_all [okVal, okText, ByteArray.toList_eq] <;> (intros; omega))

set_option maxHeartbeats 400000 in
theorem AllRight_any (A : Option Addr) (c : Nat) (l : List V) (w : World) (hr : VReads w w.heap.size A l) (hf : VFit l) (hn : l.length ≤ maxLen) :
    Calls Tryd.prog 30 #[.slice A l.length c] w fun e w' => e = .returned (.bool (l.all V.ok)) ∧ Below w.heap.size w w' := by
  unfold maxLen at hn
  go_enter Tryd.func30, Tryd.ntmps30
  go_wp2
  go_loopw [3] (fun i wr => ∃ k : Nat, k ≤ l.length ∧ i = .int .i64 k ∧ Hid ((l.take k).all V.ok = true) ∧ Below w.heap.size w wr) (fun i _ => l.length - (intOf i).toNat)
  case atStart => exact ⟨0, Nat.zero_le _, rfl, rfl, Below.refl _ _⟩
  case round =>
    obtain ⟨k, hk, rfl, hall, hb⟩ := hrel
    by_cases hlt : k < l.length
    · obtain ⟨b, o, rfl, hblk, c0, c1, c2⟩ := (hr.below hb hb.size).at_ hlt
      have hfk := hf l[k] (List.getElem_mem hlt)
      by_cases hok : okVal l[k].k l[k].n l[k].s.data.toList = true
      · have HN := Lib.hid (all_snoc hlt hall.out hok)
        go_wp2_with (go_at_call 27; refine (Right_any _ _ _ _ hfk).mono ?_; rintro e w1 ⟨rfl, hb1⟩)
        go_roundw
        case rel => exact ⟨k + 1, by omega, by go_num, HN, thn hb hb1⟩
        case measure => simp [intOf]; omega
      · have hok0 : okVal l[k].k l[k].n l[k].s.data.toList = false := by simpa using hok
        have HE : Hid (l.all V.ok = false) := List.all_eq_false.2 ⟨l[k], List.getElem_mem hlt, by unfold V.ok; rw [hok0]; simp⟩
        clear hok
        go_wp2_with (go_at_call 27; refine (Right_any _ _ _ _ hfk).mono ?_; rintro e w1 ⟨rfl, hb1⟩)
        go_ret
        exact ⟨ret_bool HE.out.symm, thn hb hb1⟩
    · go_wp2
      go_ret
      refine ⟨ret_bool ?_, hb⟩
      have h2 := hall.out
      rw [List.take_of_length_le (by omega)] at h2
      exact h2.symm
set_option maxHeartbeats 400000 in
theorem List_any (A : Option Addr) (c : Nat) (l : List V) (w : World) (hr : VReads w w.heap.size A l) (hf : VFit l) (hn : l.length ≤ maxLen) :
    Calls Tryd.prog 9 #[.slice A l.length c] w fun e w' => e = .returned (.int .i64 (chk l)) ∧ Below w.heap.size w w' := by
  have hn' := hn
  unfold maxLen at hn
  by_cases hl : l.length ≤ 20000
  · have hsz : decide ((20000 : Int) < (l.length : Int)) = false := by simp; omega
    by_cases ha : l.all V.ok = true
    · have HE := Lib.hid (chk_good hl ha)
      have HA := Lib.hid ha
      clear ha
      go_enter Tryd.func9, Tryd.ntmps9
      go_wp2_with fail
      refine (AllRight_any _ _ l _ hr hf hn').mono ?_
      rintro e w1 ⟨rfl, hb1⟩
      rw [HA.out]
      go_wp2_with fail
      go_ret
      exact ⟨ret_int HE.out.symm, hb1⟩
    · have ha0 : l.all V.ok = false := by simpa using ha
      have HE : Hid (chk l = 10) := by show chk l = 10; unfold chk; rw [if_neg (by omega), ha0]; rfl
      have HA := Lib.hid ha0
      clear ha ha0
      go_enter Tryd.func9, Tryd.ntmps9
      go_wp2_with fail
      refine (AllRight_any _ _ l _ hr hf hn').mono ?_
      rintro e w1 ⟨rfl, hb1⟩
      rw [HA.out]
      go_wp2_with fail
      go_ret
      exact ⟨ret_int HE.out.symm, hb1⟩
  · have hsz : decide ((20000 : Int) < (l.length : Int)) = true := by simp; omega
    have HR := Lib.hid (chk_large hl)
    go_enter Tryd.func9, Tryd.ntmps9
    go_wp2_with fail
    go_ret
    exact ⟨ret_int HR.out.symm, Below.refl _ _⟩
end Go.Proofs.YtmbakenfbdbapaaDoor
