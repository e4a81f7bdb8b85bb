/-
  CONTRACTS of package value: check, checkTruth.
-/
import Derived.Test.YtmhddoikicapjaaGreatDoorVal1
namespace Go.Proofs.YtmhddoikicapjaaGreatDoor
open Go.RowKit

theorem ret_int {k : IntKind} {a b : Int} (h : a = b) : Ending.returned (.int k a) = .returned (.int k b) := by rw [h]

/-- what check returns -/
def chk (l : List V) : Int := if 20000 < l.length then 2 else if l.all V.ok then 0 else 10
theorem chk_large {l : List V} (h : ¬ l.length ≤ 20000) : chk l = 2 := by unfold chk; rw [if_pos (by omega)]
theorem chk_good {l : List V} (h : l.length ≤ 20000) (ha : l.all V.ok = true) : chk l = 0 := by unfold chk; rw [if_neg (by omega), if_pos ha]
theorem chk_bad {l : List V} (h : l.length ≤ 20000) {k : Nat} (hk : k < l.length) (hb : l[k].ok = false) : chk l = 10 := by
  unfold chk
  rw [if_neg (by omega), if_neg]
  rw [List.all_eq_true]
  intro hh
  have := hh l[k] (List.getElem_mem hk)
  rw [hb] at this; cases this
theorem all_snoc {l : List V} {p : V → Bool} {k : Nat} (hk : k < l.length) (h : (l.take k).all p = true) (hp : p l[k] = true) : (l.take (k + 1)).all p = true := by
  rw [List.take_succ_eq_append_getElem hk, List.all_append, h]; simp [hp]

set_option maxHeartbeats 400000 in
theorem check_any (A : Option Addr) (c : Nat) (l : List V) (w : World) (hr : VReads w w.heap.size A l) (hf : VFit l) (hn : l.length ≤ maxLen) :
    Calls Tryz.prog 18 #[.slice A l.length c] w fun e w' => e = .returned (.int .i64 (chk l)) ∧ Below w.heap.size w w' := by
  unfold maxLen at hn
  by_cases hl : l.length ≤ 20000
  · have hsz : decide ((20000 : Int) < (l.length : Int)) = false := by simp; omega
    go_enter Tryz.func18, Tryz.ntmps18
    go_wp2
    go_loopw [10] (fun i wr => ∃ k : Nat, k ≤ l.length ∧ i = .int .i64 k ∧ Hid ((l.take k).all V.ok = true) ∧ Below w.heap.size w wr) (fun i _ => l.length - (intOf i).toNat)
    case atStart => exact ⟨0, Nat.zero_le _, rfl, rfl, Below.refl _ _⟩
    case round =>
      obtain ⟨k, hk, rfl, hall, hb⟩ := hrel
      by_cases hlt : k < l.length
      · obtain ⟨b, o, rfl, hblk, c0, c1, c2⟩ := (hr.below hb hb.size).at_ hlt
        have hfk := hf l[k] (List.getElem_mem hlt)
        by_cases hok : okVal l[k].k l[k].n l[k].s.data.toList = true
        · have HN := Lib.hid (all_snoc hlt hall.out hok)
          go_wp2_with (go_at_call 32; refine (isValue_any _ _ _ _ hfk).mono ?_; rintro e w1 ⟨rfl, hb1⟩)
          go_roundw
          case rel => exact ⟨k + 1, by omega, by go_num, HN, (hb.alloc hb.size _).trans (hb1.mono (by simp; have := hb.size; omega))⟩
          case measure => simp [intOf]; omega
        · have hok0 : okVal l[k].k l[k].n l[k].s.data.toList = false := by simpa using hok
          have HE := Lib.hid (chk_bad hl hlt hok0)
          clear hok
          go_wp2_with (go_at_call 32; refine (isValue_any _ _ _ _ hfk).mono ?_; rintro e w1 ⟨rfl, hb1⟩)
          go_ret
          exact ⟨ret_int HE.out.symm, (hb.alloc hb.size _).trans (hb1.mono (by simp; have := hb.size; omega))⟩
      · go_wp2
        go_ret
        refine ⟨ret_int (chk_good hl ?_).symm, hb⟩
        have h2 := hall.out
        rw [List.take_of_length_le (by omega)] at h2
        exact h2
  · have hsz : decide ((20000 : Int) < (l.length : Int)) = true := by simp; omega
    have HR := Lib.hid (chk_large hl)
    go_enter Tryz.func18, Tryz.ntmps18
    go_wp2
    go_ret
    exact ⟨ret_int HR.out.symm, Below.refl _ _⟩

def V.tr (v : V) : Bool := v.k == 2 || v.k == 0
/-- what checkTruth returns -/
def chkT (l : List V) : Int := if chk l = 0 then (if l.all V.tr then 0 else 1) else chk l
theorem chkT_err {l : List V} (h : chk l ≠ 0) : chkT l = chk l := by unfold chkT; rw [if_neg h]
theorem chkT_good {l : List V} (h : chk l = 0) (ha : l.all V.tr = true) : chkT l = 0 := by unfold chkT; rw [if_pos h, if_pos ha]
theorem chkT_bad {l : List V} (h : chk l = 0) {k : Nat} (hk : k < l.length) (hb : l[k].tr = false) : chkT l = 1 := by
  unfold chkT
  rw [if_pos h, if_neg]
  rw [List.all_eq_true]
  intro hh
  have := hh l[k] (List.getElem_mem hk)
  rw [hb] at this; cases this

set_option maxHeartbeats 400000 in
theorem checkTruth_any (A : Option Addr) (c : Nat) (l : List V) (w : World) (hr : VReads w w.heap.size A l) (hf : VFit l) (hn : l.length ≤ maxLen) :
    Calls Tryz.prog 57 #[.slice A l.length c] w fun e w' => e = .returned (.int .i64 (chkT l)) ∧ Below w.heap.size w w' := by
  have hn' := hn
  unfold maxLen at hn
  by_cases hl : chk l = 0
  · have HL := Lib.hid hl
    have hce : (chk l != 0) = false := by simp [hl]
    clear hl
    go_enter Tryz.func57, Tryz.ntmps57
    go_wp2_with (go_at_call 18; refine (check_any _ _ l _ hr hf hn').mono ?_; rintro e w1 ⟨rfl, hb1⟩)
    go_loopw [13] (fun i wr => ∃ k : Nat, k ≤ l.length ∧ i = .int .i64 k ∧ Hid ((l.take k).all V.tr = true) ∧ Below w.heap.size w wr) (fun i _ => l.length - (intOf i).toNat)
    case atStart => exact ⟨0, Nat.zero_le _, rfl, rfl, hb1⟩
    case round =>
      obtain ⟨k, hk, rfl, hall, hb⟩ := hrel
      by_cases hlt : k < l.length
      · obtain ⟨b, o, rfl, hblk, c0, c1, c2⟩ := (hr.below hb hb.size).at_ hlt
        by_cases h2 : l[k].k = 2
        · have HN := Lib.hid (all_snoc hlt hall.out (p := V.tr) (by unfold V.tr; simp [h2]))
          have e2 : (l[k].k != 2) = false := by simp [h2]
          clear h2
          go_wp2_with fail
          go_roundw
          case rel => exact ⟨k + 1, by omega, by go_num, HN, hb.alloc hb.size _⟩
          case measure => simp [intOf]; omega
        · by_cases h0 : l[k].k = 0
          · have HN := Lib.hid (all_snoc hlt hall.out (p := V.tr) (by unfold V.tr; simp [h0]))
            have e2 : (l[k].k != 2) = true := by simp [h2]
            have e0 : (l[k].k != 0) = false := by simp [h0]
            clear h2 h0
            go_wp2_with fail
            go_roundw
            case rel => exact ⟨k + 1, by omega, by go_num, HN, hb.alloc hb.size _⟩
            case measure => simp [intOf]; omega
          · have HB := Lib.hid (chkT_bad HL.out hlt (by unfold V.tr; simp [h0, h2]))
            have e2 : (l[k].k != 2) = true := by simp [h2]
            have e0 : (l[k].k != 0) = true := by simp [h0]
            clear h2 h0
            go_wp2_with fail
            go_ret
            exact ⟨ret_int HB.out.symm, hb.alloc hb.size _⟩
      · go_wp2_with fail
        go_ret
        refine ⟨ret_int (chkT_good HL.out ?_).symm, hb⟩
        have h2 := hall.out
        rw [List.take_of_length_le (by omega)] at h2
        exact h2
  · have HR := Lib.hid (chkT_err hl)
    have hce : (chk l != 0) = true := by simp [hl]
    clear hl
    go_enter Tryz.func57, Tryz.ntmps57
    go_wp2_with (go_at_call 18; refine (check_any _ _ l _ hr hf hn').mono ?_; rintro e w1 ⟨rfl, hb1⟩)
    go_ret
    exact ⟨ret_int HR.out.symm, hb1⟩
end Go.Proofs.YtmhddoikicapjaaGreatDoor
