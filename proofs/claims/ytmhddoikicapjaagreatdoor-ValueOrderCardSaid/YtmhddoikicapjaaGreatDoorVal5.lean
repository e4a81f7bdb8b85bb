/-
  CONTRACTS of package value: joined with an error, And, Or, Not.
-/
import Derived.Test.YtmhddoikicapjaaGreatDoorVal4
namespace Go.Proofs.YtmhddoikicapjaaGreatDoor
open Go.RowKit

set_option maxHeartbeats 400000 in
theorem joined_err (x : Bool) (A : Option Addr) (c : Nat) (l : List V) (w : World) (hr : VReads w w.heap.size A l) (hf : VFit l) (hn : l.length ≤ maxLen) (h0 : chkT l ≠ 0) :
    Calls Tryz.prog 42 #[.agg #[.int .i64 2, .int .i64 (b2i x), .string ⟨#[]⟩], .slice A l.length c] w fun e w' => e = .returned (.tuple #[.agg #[.int .i64 0, .int .i64 0, .string ⟨#[]⟩], .int .i64 (chkT l)]) ∧ Below w.heap.size w w' := by
  have he : (chkT l != 0) = true := by simp [h0]
  clear h0
  go_enter Tryz.func42, Tryz.ntmps42
  go_wp2_with fail
  refine (checkTruth_any _ _ l _ (hr.below (al (al (Below.refl _ _) _) _) (by simp <;> omega)) hf hn).mono ?_
  rintro e w1 ⟨rfl, hb1⟩
  have R1 := (Blk.new' (w := w.alloc (.cells #[.int .i64 2, .int .i64 (b2i x), .string ⟨#[]⟩] 35)) (g := w.heap.size + 1) (t := 35) (cs := #[.int .i64 0, .int .i64 0, .string ⟨#[]⟩]) (by simp)).below hb1 (by simp <;> omega)
  obtain ⟨⟨k0, k1, k2⟩, f0, f1, f2⟩ := R1.three
  go_wp2_with fail
  refine bodyPost_ret (v := .tuple #[.agg #[.int .i64 0, .int .i64 0, .string ⟨#[]⟩], .int .i64 (chkT l)]) (by simp [results, Tryz.results42, go_sem, k0, k1, k2]) rfl ⟨rfl, st3 (thn (al (al (Below.refl _ _) _) _) hb1) (by omega) _ _ _⟩

set_option maxHeartbeats 400000 in
theorem And_ok (A : Option Addr) (c : Nat) (l : List V) (w : World) (hr : VReads w w.heap.size A l) (hf : VFit l) (hn : l.length ≤ maxLen) (h0 : chkT l = 0) :
    Calls Tryz.prog 28 #[.slice A l.length c] w fun e w' => e = .returned (.tuple #[.agg #[.int .i64 (joinV false l).k, .int .i64 (joinV false l).n, .string (joinV false l).s], .int .i64 0]) ∧ Below w.heap.size w w' := by
  have H0 := Lib.hid h0
  clear h0
  go_enter Tryz.func28, Tryz.ntmps28
  go_wp2_with fail
  refine (truth_any _ _).mono ?_
  rintro e w1 ⟨rfl, hb1⟩
  go_wp2_with fail
  refine (joined_any false _ _ l _ (hr.below (thn (al (Below.refl _ _) _) hb1) (by have := hb1.size; simp at this; omega)) hf hn H0.out).mono ?_
  rintro e w2 ⟨rfl, hb2⟩
  have hz1 := hb1.size
  simp at hz1
  have R1 := ((Blk.new' (w := w) (g := w.heap.size) (t := 35) (cs := #[.int .i64 0, .int .i64 0, .string ⟨#[]⟩]) rfl).below hb1 (by simp)).below hb2 (by omega)
  obtain ⟨⟨k0, k1, k2⟩, f0, f1, f2⟩ := R1.three
  unfold V.val
  go_wp2_with fail
  refine bodyPost_ret (v := .tuple #[.agg #[.int .i64 (joinV false l).k, .int .i64 (joinV false l).n, .string (joinV false l).s], .int .i64 0]) (by simp [results, Tryz.results28, go_sem, k0, k1, k2]) rfl ⟨rfl, st3 (thn (thn (al (Below.refl _ _) _) hb1) hb2) (by omega) _ _ _⟩
set_option maxHeartbeats 400000 in
theorem And_err (A : Option Addr) (c : Nat) (l : List V) (w : World) (hr : VReads w w.heap.size A l) (hf : VFit l) (hn : l.length ≤ maxLen) (h0 : chkT l ≠ 0) :
    Calls Tryz.prog 28 #[.slice A l.length c] w fun e w' => e = .returned (.tuple #[.agg #[.int .i64 0, .int .i64 0, .string ⟨#[]⟩], .int .i64 (chkT l)]) ∧ Below w.heap.size w w' := by
  have H0 := Lib.hid h0
  clear h0
  go_enter Tryz.func28, Tryz.ntmps28
  go_wp2_with fail
  refine (truth_any _ _).mono ?_
  rintro e w1 ⟨rfl, hb1⟩
  go_wp2_with fail
  refine (joined_err false _ _ l _ (hr.below (thn (al (Below.refl _ _) _) hb1) (by have := hb1.size; simp at this; omega)) hf hn H0.out).mono ?_
  rintro e w2 ⟨rfl, hb2⟩
  have hz1 := hb1.size
  simp at hz1
  have R1 := ((Blk.new' (w := w) (g := w.heap.size) (t := 35) (cs := #[.int .i64 0, .int .i64 0, .string ⟨#[]⟩]) rfl).below hb1 (by simp)).below hb2 (by omega)
  obtain ⟨⟨k0, k1, k2⟩, f0, f1, f2⟩ := R1.three
  go_wp2_with fail
  refine bodyPost_ret (v := .tuple #[.agg #[.int .i64 0, .int .i64 0, .string ⟨#[]⟩], .int .i64 (chkT l)]) (by simp [results, Tryz.results28, go_sem, k0, k1, k2]) rfl ⟨rfl, st3 (thn (thn (al (Below.refl _ _) _) hb1) hb2) (by omega) _ _ _⟩
set_option maxHeartbeats 400000 in
theorem Or_ok (A : Option Addr) (c : Nat) (l : List V) (w : World) (hr : VReads w w.heap.size A l) (hf : VFit l) (hn : l.length ≤ maxLen) (h0 : chkT l = 0) :
    Calls Tryz.prog 30 #[.slice A l.length c] w fun e w' => e = .returned (.tuple #[.agg #[.int .i64 (joinV true l).k, .int .i64 (joinV true l).n, .string (joinV true l).s], .int .i64 0]) ∧ Below w.heap.size w w' := by
  have H0 := Lib.hid h0
  clear h0
  go_enter Tryz.func30, Tryz.ntmps30
  go_wp2_with fail
  refine (truth_any _ _).mono ?_
  rintro e w1 ⟨rfl, hb1⟩
  go_wp2_with fail
  refine (joined_any true _ _ l _ (hr.below (thn (al (Below.refl _ _) _) hb1) (by have := hb1.size; simp at this; omega)) hf hn H0.out).mono ?_
  rintro e w2 ⟨rfl, hb2⟩
  have hz1 := hb1.size
  simp at hz1
  have R1 := ((Blk.new' (w := w) (g := w.heap.size) (t := 35) (cs := #[.int .i64 0, .int .i64 0, .string ⟨#[]⟩]) rfl).below hb1 (by simp)).below hb2 (by omega)
  obtain ⟨⟨k0, k1, k2⟩, f0, f1, f2⟩ := R1.three
  unfold V.val
  go_wp2_with fail
  refine bodyPost_ret (v := .tuple #[.agg #[.int .i64 (joinV true l).k, .int .i64 (joinV true l).n, .string (joinV true l).s], .int .i64 0]) (by simp [results, Tryz.results30, go_sem, k0, k1, k2]) rfl ⟨rfl, st3 (thn (thn (al (Below.refl _ _) _) hb1) hb2) (by omega) _ _ _⟩
set_option maxHeartbeats 400000 in
theorem Or_err (A : Option Addr) (c : Nat) (l : List V) (w : World) (hr : VReads w w.heap.size A l) (hf : VFit l) (hn : l.length ≤ maxLen) (h0 : chkT l ≠ 0) :
    Calls Tryz.prog 30 #[.slice A l.length c] w fun e w' => e = .returned (.tuple #[.agg #[.int .i64 0, .int .i64 0, .string ⟨#[]⟩], .int .i64 (chkT l)]) ∧ Below w.heap.size w w' := by
  have H0 := Lib.hid h0
  clear h0
  go_enter Tryz.func30, Tryz.ntmps30
  go_wp2_with fail
  refine (truth_any _ _).mono ?_
  rintro e w1 ⟨rfl, hb1⟩
  go_wp2_with fail
  refine (joined_err true _ _ l _ (hr.below (thn (al (Below.refl _ _) _) hb1) (by have := hb1.size; simp at this; omega)) hf hn H0.out).mono ?_
  rintro e w2 ⟨rfl, hb2⟩
  have hz1 := hb1.size
  simp at hz1
  have R1 := ((Blk.new' (w := w) (g := w.heap.size) (t := 35) (cs := #[.int .i64 0, .int .i64 0, .string ⟨#[]⟩]) rfl).below hb1 (by simp)).below hb2 (by omega)
  obtain ⟨⟨k0, k1, k2⟩, f0, f1, f2⟩ := R1.three
  go_wp2_with fail
  refine bodyPost_ret (v := .tuple #[.agg #[.int .i64 0, .int .i64 0, .string ⟨#[]⟩], .int .i64 (chkT l)]) (by simp [results, Tryz.results30, go_sem, k0, k1, k2]) rfl ⟨rfl, st3 (thn (thn (al (Below.refl _ _) _) hb1) hb2) (by omega) _ _ _⟩

/-- a slice that is just this one value, in a block of its own -/
theorem VReads.one {w : World} {g B : Nat} {T : TypeId} {a b : Int} {s : ByteArray} (h : Blk w g T #[.int .i64 a, .int .i64 b, .string s]) (hg : g < B) : VReads w B (some ⟨g, 0, none⟩) [⟨a, b, s⟩] := fun _ => by
  obtain ⟨⟨k0, k1, k2⟩, _⟩ := h.three
  refine ⟨g, 0, rfl, hg, fun i v hi => ?_⟩
  cases i with
  | zero => simp at hi; subst hi; exact ⟨k0, k1, k2⟩
  | succ i => simp at hi
theorem VFit.one {v : V} (h : v.s.size ≤ maxLen) : VFit [v] := fun u hu => by simp at hu; subst hu; exact h

end Go.Proofs.YtmhddoikicapjaaGreatDoor
