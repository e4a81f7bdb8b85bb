/-
  CONTRACTS of package value: Not.
-/
import Derived.Test.YtmbakenfbdbapaaDoorVal5
namespace Go.Proofs.YtmbakenfbdbapaaDoor
open Go.RowKit

/-- what Not returns of a right truth -/
def notV (v : V) : V := if v.k = 0 then v else ⟨2, b2i (v.n == 0), ⟨#[]⟩⟩

set_option maxHeartbeats 400000 in
theorem Not_err (a b : Int) (s : ByteArray) (w : World) (hs : s.size ≤ maxLen) (h0 : chkT [⟨a, b, s⟩] ≠ 0) :
    Calls Tryd.prog 21 #[.agg #[.int .i64 a, .int .i64 b, .string s]] w fun e w' => e = .returned (.tuple #[.agg #[.int .i64 0, .int .i64 0, .string ⟨#[]⟩], .int .i64 (chkT [⟨a, b, s⟩])]) ∧ Below w.heap.size w w' := by
  have he : (chkT [⟨a, b, s⟩] != 0) = true := by simp [h0]
  clear h0
  go_enter Tryd.func21, Tryd.ntmps21
  go_wp2_with fail
  have A3 := Blk.new' (w := (w.alloc (.cells #[.int .i64 a, .int .i64 b, .string s] 24)).alloc (.cells #[.int .i64 0, .int .i64 0, .string ⟨#[]⟩] 24)) (g := w.heap.size + 1 + 1) (t := 24) (cs := #[.int .i64 a, .int .i64 b, .string s]) (by simp)
  refine (checkTruth_any _ _ [⟨a, b, s⟩] _ (VReads.one A3 (by simp)) (VFit.one hs) (by simp [maxLen])).mono ?_
  rintro e w1 ⟨rfl, hb1⟩
  have hz1 := hb1.size
  simp at hz1
  have E1 := (((Blk.new' (w := w) (g := w.heap.size) (t := 24) (cs := #[.int .i64 a, .int .i64 b, .string s]) rfl).alloc (.cells #[.int .i64 0, .int .i64 0, .string ⟨#[]⟩] 24)).alloc (.cells #[.int .i64 a, .int .i64 b, .string s] 24)).below hb1 (by simp <;> omega)
  have R1 := ((Blk.new' (w := w.alloc (.cells #[.int .i64 a, .int .i64 b, .string s] 24)) (g := w.heap.size + 1) (t := 24) (cs := #[.int .i64 0, .int .i64 0, .string ⟨#[]⟩]) (by simp)).alloc (.cells #[.int .i64 a, .int .i64 b, .string s] 24)).below hb1 (by simp <;> omega)
  have W1 := thn (al (al (al (Below.refl _ w) _) _) _) hb1
  obtain ⟨⟨k0, k1, k2⟩, f0, f1, f2⟩ := R1.three
  go_wp2_with fail
  exact bodyPost_ret (v := .tuple #[.agg #[.int .i64 0, .int .i64 0, .string ⟨#[]⟩], .int .i64 (chkT [⟨a, b, s⟩])]) (by simp [results, Tryd.results21, go_sem, k0, k1, k2]) rfl ⟨rfl, st3 W1 (by omega) _ _ _⟩

set_option maxHeartbeats 400000 in
theorem Not_null (b : Int) (s : ByteArray) (w : World) (hs : s.size ≤ maxLen) (h0 : chkT [⟨0, b, s⟩] = 0) :
    Calls Tryd.prog 21 #[.agg #[.int .i64 0, .int .i64 b, .string s]] w fun e w' => e = .returned (.tuple #[.agg #[.int .i64 0, .int .i64 b, .string s], .int .i64 0]) ∧ Below w.heap.size w w' := by
  have he : (chkT [⟨0, b, s⟩] != 0) = false := by simp [h0]
  clear h0
  go_enter Tryd.func21, Tryd.ntmps21
  go_wp2_with fail
  have A3 := Blk.new' (w := (w.alloc (.cells #[.int .i64 0, .int .i64 b, .string s] 24)).alloc (.cells #[.int .i64 0, .int .i64 0, .string ⟨#[]⟩] 24)) (g := w.heap.size + 1 + 1) (t := 24) (cs := #[.int .i64 0, .int .i64 b, .string s]) (by simp)
  refine (checkTruth_any _ _ [⟨0, b, s⟩] _ (VReads.one A3 (by simp)) (VFit.one hs) (by simp [maxLen])).mono ?_
  rintro e w1 ⟨rfl, hb1⟩
  have hz1 := hb1.size
  simp at hz1
  have E1 := (((Blk.new' (w := w) (g := w.heap.size) (t := 24) (cs := #[.int .i64 0, .int .i64 b, .string s]) rfl).alloc (.cells #[.int .i64 0, .int .i64 0, .string ⟨#[]⟩] 24)).alloc (.cells #[.int .i64 0, .int .i64 b, .string s] 24)).below hb1 (by simp <;> omega)
  have R1 := ((Blk.new' (w := w.alloc (.cells #[.int .i64 0, .int .i64 b, .string s] 24)) (g := w.heap.size + 1) (t := 24) (cs := #[.int .i64 0, .int .i64 0, .string ⟨#[]⟩]) (by simp)).alloc (.cells #[.int .i64 0, .int .i64 b, .string s] 24)).below hb1 (by simp <;> omega)
  have W1 := thn (al (al (al (Below.refl _ w) _) _) _) hb1
  obtain ⟨⟨e0, e1, e2⟩, ee⟩ := E1.three
  clear ee
  go_wp2_with fail
  refine (opposite_null _ _ _).mono ?_
  rintro e w2 ⟨rfl, hb2⟩
  obtain ⟨⟨k0, k1, k2⟩, f0, f1, f2⟩ := (R1.below hb2 (by omega)).three
  go_wp2_with fail
  exact bodyPost_ret (v := .tuple #[.agg #[.int .i64 0, .int .i64 b, .string s], .int .i64 0]) (by simp [results, Tryd.results21, go_sem, k0, k1, k2]) rfl ⟨rfl, st3 (thn W1 hb2) (by omega) _ _ _⟩

set_option maxHeartbeats 400000 in
theorem Not_bool (b : Int) (s : ByteArray) (w : World) (hs : s.size ≤ maxLen) (h0 : chkT [⟨2, b, s⟩] = 0) :
    Calls Tryd.prog 21 #[.agg #[.int .i64 2, .int .i64 b, .string s]] w fun e w' => e = .returned (.tuple #[.agg #[.int .i64 2, .int .i64 (b2i (b == 0)), .string ⟨#[]⟩], .int .i64 0]) ∧ Below w.heap.size w w' := by
  have he : (chkT [⟨2, b, s⟩] != 0) = false := by simp [h0]
  clear h0
  go_enter Tryd.func21, Tryd.ntmps21
  go_wp2_with fail
  have A3 := Blk.new' (w := (w.alloc (.cells #[.int .i64 2, .int .i64 b, .string s] 24)).alloc (.cells #[.int .i64 0, .int .i64 0, .string ⟨#[]⟩] 24)) (g := w.heap.size + 1 + 1) (t := 24) (cs := #[.int .i64 2, .int .i64 b, .string s]) (by simp)
  refine (checkTruth_any _ _ [⟨2, b, s⟩] _ (VReads.one A3 (by simp)) (VFit.one hs) (by simp [maxLen])).mono ?_
  rintro e w1 ⟨rfl, hb1⟩
  have hz1 := hb1.size
  simp at hz1
  have E1 := (((Blk.new' (w := w) (g := w.heap.size) (t := 24) (cs := #[.int .i64 2, .int .i64 b, .string s]) rfl).alloc (.cells #[.int .i64 0, .int .i64 0, .string ⟨#[]⟩] 24)).alloc (.cells #[.int .i64 2, .int .i64 b, .string s] 24)).below hb1 (by simp <;> omega)
  have R1 := ((Blk.new' (w := w.alloc (.cells #[.int .i64 2, .int .i64 b, .string s] 24)) (g := w.heap.size + 1) (t := 24) (cs := #[.int .i64 0, .int .i64 0, .string ⟨#[]⟩]) (by simp)).alloc (.cells #[.int .i64 2, .int .i64 b, .string s] 24)).below hb1 (by simp <;> omega)
  have W1 := thn (al (al (al (Below.refl _ w) _) _) _) hb1
  obtain ⟨⟨e0, e1, e2⟩, ee⟩ := E1.three
  clear ee
  go_wp2_with fail
  refine (opposite_bool _ _ _).mono ?_
  rintro e w2 ⟨rfl, hb2⟩
  obtain ⟨⟨k0, k1, k2⟩, f0, f1, f2⟩ := (R1.below hb2 (by omega)).three
  go_wp2_with fail
  exact bodyPost_ret (v := .tuple #[.agg #[.int .i64 2, .int .i64 (b2i (b == 0)), .string ⟨#[]⟩], .int .i64 0]) (by simp [results, Tryd.results21, go_sem, k0, k1, k2]) rfl ⟨rfl, st3 (thn W1 hb2) (by omega) _ _ _⟩
end Go.Proofs.YtmbakenfbdbapaaDoor
