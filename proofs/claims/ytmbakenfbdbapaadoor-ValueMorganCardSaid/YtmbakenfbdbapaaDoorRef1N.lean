/-
  CONTRACTS of the reference: Not.
-/
import Derived.Test.YtmbakenfbdbapaaDoorRef1
import Derived.Test.YtmbakenfbdbapaaDoorVal5N
namespace Go.Proofs.YtmbakenfbdbapaaDoor
open Go.RowKit

set_option maxHeartbeats 400000 in
theorem rNot_null (n : Int) (s : ByteArray) (w : World) :
    Calls Tryd.prog 23 #[.agg #[.int .i64 0, .int .i64 n, .string s]] w fun e w' => e = .returned (.agg #[.int .i64 0, .int .i64 n, .string s]) ∧ Below w.heap.size w w' := by
  go_enter Tryd.func23, Tryd.ntmps23
  go_wp2
  exact bodyPost_ret (v := .agg #[.int .i64 0, .int .i64 n, .string s]) (by simp [results, Tryd.results23, go_sem]) rfl ⟨rfl, ((Below.refl _ _).alloc (Nat.le_refl _) _).alloc (by simp) _⟩
set_option maxHeartbeats 400000 in
theorem rNot_bool (n : Int) (s : ByteArray) (w : World) :
    Calls Tryd.prog 23 #[.agg #[.int .i64 2, .int .i64 n, .string s]] w fun e w' => e = .returned (.agg #[.int .i64 2, .int .i64 (b2i (n == 0)), .string ⟨#[]⟩]) ∧ Below w.heap.size w w' := by
  go_enter Tryd.func23, Tryd.ntmps23
  go_wp2_with (go_at_call 29; refine (rBool_any _ _).mono ?_; rintro e w1 ⟨rfl, hb1⟩; obtain ⟨⟨k0, k1, k2⟩, f0, f1, f2⟩ := ((Blk.new' (g := w.heap.size + 1) (by simp)).below hb1 (by simp)).three)
  exact bodyPost_ret (v := .agg #[.int .i64 2, .int .i64 (b2i (n == 0)), .string ⟨#[]⟩]) (by simp [results, Tryd.results23, go_sem, k0, k1, k2]) rfl
    ⟨rfl, st3 (thn (al (al (Below.refl _ _) _) _) hb1) (by simp) _ _ _⟩


end Go.Proofs.YtmbakenfbdbapaaDoor
