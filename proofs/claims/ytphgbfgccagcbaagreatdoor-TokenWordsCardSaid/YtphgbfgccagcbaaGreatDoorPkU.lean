/-
  CONTRACT of package token's Words.
-/
import Derived.Test.YtphgbfgccagcbaaGreatDoorGA10
import Derived.Test.YtphgbfgccagcbaaGreatDoorIter
import Derived.Maps.OwnSet
namespace Go.Proofs.YtphgbfgccagcbaaGreatDoor
open Go.RowKit Go.Maps Go.Sort Go.Shelf

/-- the words, as lists of bytes -/
def wordsL : List (List UInt8) := wordsB.map fun x => x.data.toList
theorem wordsL_sorted : wordsL.mergeSort leB = wordsL := List.mergeSort_of_pairwise (by decide +kernel)
theorem wordsL_nodup : wordsL.Nodup := by decide +kernel
theorem wordsL_mem (key : List UInt8) : key ∈ wordsL ↔ (wordsB.any fun x => x.data.toList == key) = true := by
  unfold wordsL
  rw [List.mem_map, List.any_eq_true]
  constructor
  · rintro ⟨x, hx, rfl⟩
    exact ⟨x, hx, beq_self_eq_true _⟩
  · rintro ⟨x, hx, e⟩
    exact ⟨x, hx, eq_of_beq e⟩
theorem wordsL_enc : wordsL.map encStr = wordsB.map Value.string := by
  unfold wordsL
  rw [List.map_map]
  rfl
/-- what a row of strings of the call's own reads as -/
theorem str_reads {w : World} {base : Nat} {e : TypeId} {v : Value} {n : Nat} {l : List ByteArray} (hn : n = l.length) (h0 : 0 < n) (h : w.ownsRow base e 1 v n (l.map Value.string)) :
    ∃ (A : Option Addr) (c : Nat), v = .slice A n c ∧ TReads w w.heap.size A l := by
  rcases h.2 with ⟨rfl, h0'⟩ | ⟨g, cap, cur, rfl, hb, hh, hnc, hcm, hcs, htk⟩
  · omega
  · refine ⟨_, cap, rfl, fun _ => ?_⟩
    have hg : g < w.heap.size := by
      rcases Nat.lt_or_ge g w.heap.size with h1 | h1
      · exact h1
      · rw [Array.getElem?_eq_none h1] at hh; cases hh
    refine ⟨g, 0, rfl, hg, fun i x hx => ?_⟩
    have hi : i < l.length := (List.getElem?_eq_some_iff.1 hx).1
    rw [Nat.zero_add, cell_of_row w g i cur e (0, 0) hh]
    have h2 := congrArg (·[i]?) htk
    simp only [List.getElem?_map, hx, Option.map_some, List.getElem?_take] at h2
    rw [if_pos (by omega)] at h2
    simpa using h2
set_option maxHeartbeats 2000000 in
theorem PWords_any (w : World) (hG : GT w) :
    Calls Tryz.prog 11 #[] w fun e w' => ∃ A c, e = .returned (.slice A 41 c) ∧ TReads w' w'.heap.size A wordsB ∧ Below w.heap.size w w' := by
  have HG := Lib.hid hG
  clear hG
  refine (callsIn_wide (n := 6)).1 ?_
  have hfK : Fence.wide.fn 22 := trivial
  have hfS : Fence.wide.fn 21 := trivial
  refine callsIn_of_wp Tryz.func11 rfl trivial ?_ rfl
  simp only [Tryz.ntmps11, List.size_toArray, List.length_nil, Nat.reduceSub, Array.replicate_succ, Array.replicate_zero, List.push_toArray, List.append_toArray, List.nil_append, List.cons_append]
  gi_wp2
  refine ⟨trivial, (callsIn_wide.2 (words_any w HG.out)).mono ?_⟩
  rintro e w1 ⟨b, rfl, hb, ⟨D, hown, hat0, hhas⟩, hb1⟩
  have HW := Lib.hid (And.intro hown (And.intro hhas hb1))
  have hsz : Maps.size D ≤ 41 := hown.size_le
  clear hb hat0 hhas hb1 hown
  gi_wp2_with (first
    | (gi_at_call 22; refine (Tryz.maps_Keys_22 _ _).mono ?_; rintro e w' ⟨rfl, rfl⟩)
    | (gi_at_call 21; refine (Tryz.slices_Sorted_keys_21_22 b 41 D _ w1 HW.out.1 (by unfold maxLen; omega) (by omega)).mono ?_; rintro e w' ⟨v, ss, rfl, hS, hrow, hnil, hb⟩))
  go_ret
  have hperm : wordsL.Perm (strKeys D) := Collected.perm (left := fun _ => false) ⟨wordsL_nodup, fun x => by rw [wordsL_mem, ← HW.out.2.1]; simp⟩ HW.out.1 (Maps.string_keyed Tryz.underlying9) Tryz.underlying9 (fun _ => rfl)
  have hss : ss.mergeSort (fun x y => decide (x ≤ y)) = wordsL := by
    have := mergeSort_of_perm (hS.trans hperm.symm)
    rw [wordsL_sorted] at this
    exact this
  have hlen : ss.length = 41 := by
    have := (hS.trans hperm.symm).length_eq
    rw [this]
    rfl
  rw [hss, wordsL_enc, hlen] at hrow
  obtain ⟨A, c, rfl, hr⟩ := str_reads rfl (by decide) hrow
  exact ⟨A, c, rfl, hr, HW.out.2.2.trans ((((Below.refl _ w1).alloc (Nat.le_refl _) _).trans (hb.mono (by simp))).mono HW.out.2.2.size)⟩
end Go.Proofs.YtphgbfgccagcbaaGreatDoor
