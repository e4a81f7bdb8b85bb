/-
  Cut of one value; a variable read as a list of one.
-/
import Derived.Test.YtmhddoikicapjaaGreatDoorUniC
namespace Go.Proofs.YtmhddoikicapjaaGreatDoor
open Go.RowKit

theorem cut_size (v : V) (h : v.s.size ≤ maxLen) : v.cut.s.size ≤ maxLen := by
  have : (v.s.extract 0 (min (v.s.size : Int) 202).toNat).size ≤ v.s.size := by
    rw [ByteArray.size_extract]; omega
  exact Nat.le_trans this h
theorem cut_fit {m : Nat} {l : List V} (h : VFit l) : VFit (cut m l) := fun v hv => by
  unfold cut at hv
  obtain ⟨u, hu, rfl⟩ := List.mem_map.1 hv
  exact cut_size u (h u (List.mem_of_mem_take hu))
theorem cut_len (m : Nat) (l : List V) : (cut m l).length ≤ m := by unfold cut; simp; omega

/-- Cut of one value: a slice of just it, cut -/
theorem Cut_one (g : Nat) (k n : Int) (s : ByteArray) (w : World) (h : Blk w g 35 #[.int .i64 k, .int .i64 n, .string s]) (hs : s.size ≤ maxLen) :
    Calls Tryz.prog 7 #[.slice (some ⟨g, 0, none⟩) 1 1, .int .i64 1] w fun e w' => ∃ g' c', e = .returned (.slice (some ⟨g', 0, none⟩) 1 c') ∧ 1 ≤ c' ∧
      C3 w' g' k n (V.cut ⟨k, n, s⟩).s ∧ Below w.heap.size w w' := by
  refine (Cut_any 1 _ 1 [⟨k, n, s⟩] w (VReads.one h h.lt) (VFit.one hs) (by simp [maxLen]) (by decide)).mono ?_
  rintro e w' ⟨v, rfl, ho, hb⟩
  obtain ⟨A, c, hv, hc, _, hr, hg⟩ := own_reads ho
  have e1 : cut 1 [⟨k, n, s⟩] = [V.cut ⟨k, n, s⟩] := rfl
  rw [e1] at hr hg hc hv
  obtain ⟨g', rfl, _⟩ := hg (by simp)
  obtain ⟨b, o, ha, hlt, c0, c1, c2⟩ := hr.at_ (i := 0) (by simp)
  obtain ⟨rfl, rfl, _⟩ : g' = b ∧ 0 = o ∧ True := by injection ha with ha; injection ha with h1 h2; exact ⟨h1, h2, trivial⟩
  exact ⟨g', c, by rw [hv]; rfl, hc, ⟨hlt, c0, c1, c2⟩, hb⟩

theorem C3.reads {w : World} {g : Nat} {a b : Int} {s : ByteArray} (h : C3 w g a b s) : VReads w w.heap.size (some ⟨g, 0, none⟩) [⟨a, b, s⟩] := fun _ => by
  refine ⟨g, 0, rfl, h.1, fun i v hi => ?_⟩
  cases i with
  | zero => simp at hi; subst hi; exact ⟨h.2.1, h.2.2.1, h.2.2.2⟩
  | succ i => simp at hi
end Go.Proofs.YtmhddoikicapjaaGreatDoor
