/-
  CONTRACT of the reference: Same.
-/
import Derived.Test.YtmhddoikicapjaaGreatDoorRefC
namespace Go.Proofs.YtmhddoikicapjaaGreatDoor
open Go.RowKit

/-- are two lists the same? -/
def sameV : List V → List V → Bool
  | [], [] => true
  | x :: l, y :: r => veq x.k x.n x.s y.k y.n y.s && sameV l r
  | _, _ => false
theorem sameV_iff : ∀ l r : List V, sameV l r = true ↔ l = r
  | [], [] => by simp [sameV]
  | [], _ :: _ => by simp [sameV]
  | _ :: _, [] => by simp [sameV]
  | x :: l, y :: r => by
    unfold sameV
    rw [Bool.and_eq_true, veq_iff, sameV_iff l r]
    obtain ⟨a, b, s⟩ := x
    obtain ⟨a', b', s'⟩ := y
    simp
theorem sameV_not {l r : List V} (h : l ≠ r) : sameV l r = false := by
  cases hs : sameV l r with
  | false => rfl
  | true => exact absurd ((sameV_iff l r).1 hs) h

set_option maxHeartbeats 800000 in
theorem Same_any (A A' : Option Addr) (c c' : Nat) (l r : List V) (w : World) (hr : VReads w w.heap.size A l) (hr' : VReads w w.heap.size A' r) (hn : l.length ≤ maxLen) (hn' : r.length ≤ maxLen) :
    Calls Tryz.prog 12 #[.slice A l.length c, .slice A' r.length c'] w fun e w' => e = .returned (.bool (sameV l r)) ∧ Below w.heap.size w w' := by
  have hn := Nat.le_trans hn (Nat.le_refl _)
  have hn' := Nat.le_trans hn' (Nat.le_refl _)
  unfold maxLen at hn hn'
  have hne := @neqV
  by_cases hl : l.length = r.length
  · have e1 : ((l.length : Int) != (r.length : Int)) = false := by simp [hl]
    go_enter Tryz.func12, Tryz.ntmps12
    go_wp2_with fail
    go_loopw [5] (fun i wr => ∃ k : Nat, k ≤ l.length ∧ i = .int .i64 k ∧ Hid (l.take k = r.take k) ∧ Hid (Below w.heap.size w wr)) (fun i _ => l.length - (intOf i).toNat)
    case atStart => exact ⟨0, Nat.zero_le _, rfl, rfl, Below.refl _ _⟩
    case round =>
      obtain ⟨k, hk, rfl, HT, HB⟩ := hrel
      have hk0 : (0 : Int) ≤ (k : Int) := by omega
      by_cases hlt : k < l.length
      · have hlt' : k < r.length := by omega
        have hlti : (k : Int) < (l.length : Int) := by omega
        have hlti' : (k : Int) < (r.length : Int) := by omega
        obtain ⟨b, o, rfl, hblk, c0, c1, c2⟩ := (hr.below HB.out HB.out.size).at_ hlt
        obtain ⟨b', o', rfl, hblk', d0, d1, d2⟩ := (hr'.below HB.out HB.out.size).at_ hlt'
        by_cases hE : veq l[k].k l[k].n l[k].s r[k].k r[k].n r[k].s = true
        · have HN : Hid (l.take (k + 1) = r.take (k + 1)) := by
            have hh : l[k] = r[k] := veq_iff.1 hE
            show _ = _
            rw [List.take_succ_eq_append_getElem hlt, List.take_succ_eq_append_getElem hlt', HT.out, hh]
          go_wp2_with fail
          go_quiet (fail)
          go_wp2_with fail
          go_roundw
          case rel => exact ⟨k + 1, by omega, by go_num, HN, below_drewN HB.out _⟩
          case measure => simp [intOf]; omega
        · have hE0 : veq l[k].k l[k].n l[k].s r[k].k r[k].n r[k].s = false := by simpa using hE
          have HE : Hid (sameV l r = false) := by
            refine sameV_not fun hh => hE (veq_iff.2 ?_)
            subst hh; rfl
          clear hE
          go_wp2_with fail
          go_quiet (fail)
          go_wp2_with fail
          go_ret
          exact ⟨ret_bool HE.out.symm, below_drewN HB.out _⟩
      · have HE : Hid (sameV l r = true) := by
          have h1 := HT.out
          rw [List.take_of_length_le (by omega), List.take_of_length_le (by omega)] at h1
          exact (sameV_iff l r).2 h1
        go_wp2_with fail
        go_ret
        exact ⟨ret_bool HE.out.symm, HB.out⟩
  · have HE : Hid (sameV l r = false) := sameV_not fun hh => hl (by rw [hh])
    have e1 : ((l.length : Int) != (r.length : Int)) = true := by simp; omega
    clear hl
    go_enter Tryz.func12, Tryz.ntmps12
    go_wp2_with fail
    go_ret
    exact ⟨ret_bool HE.out.symm, Below.refl _ _⟩
end Go.Proofs.YtmhddoikicapjaaGreatDoor
