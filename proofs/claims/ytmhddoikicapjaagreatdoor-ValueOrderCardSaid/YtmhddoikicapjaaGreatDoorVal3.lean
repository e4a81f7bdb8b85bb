/-
  CONTRACTS of package value: truth, opposite, joined, And, Or, Not.
-/
import Derived.Test.YtmhddoikicapjaaGreatDoorVal2
import Derived.Laws.StructEq
namespace Go.Proofs.YtmhddoikicapjaaGreatDoor
open Go.RowKit

def b2i (b : Bool) : Int := if b then 1 else 0
set_option maxHeartbeats 400000 in
theorem truth_any (x : Bool) (w : World) :
    Calls Tryz.prog 43 #[.bool x] w fun e w' => e = .returned (.agg #[.int .i64 2, .int .i64 (b2i x), .string ⟨#[]⟩]) ∧ Below w.heap.size w w' := by
  cases x
  · go_enter Tryz.func43, Tryz.ntmps43
    go_wp2
    exact bodyPost_ret (v := .agg #[.int .i64 2, .int .i64 0, .string ⟨#[]⟩]) (by simp [results, Tryz.results43, go_sem]) rfl ⟨rfl, (Below.refl _ _).alloc (Nat.le_refl _) _⟩
  · go_enter Tryz.func43, Tryz.ntmps43
    go_wp2
    exact bodyPost_ret (v := .agg #[.int .i64 2, .int .i64 1, .string ⟨#[]⟩]) (by simp [results, Tryz.results43, go_sem]) rfl ⟨rfl, (Below.refl _ _).alloc (Nat.le_refl _) _⟩

set_option maxHeartbeats 400000 in
theorem opposite_null (n : Int) (s : ByteArray) (w : World) :
    Calls Tryz.prog 58 #[.agg #[.int .i64 0, .int .i64 n, .string s]] w fun e w' => e = .returned (.agg #[.int .i64 0, .int .i64 n, .string s]) ∧ Below w.heap.size w w' := by
  go_enter Tryz.func58, Tryz.ntmps58
  go_wp2
  exact bodyPost_ret (v := .agg #[.int .i64 0, .int .i64 n, .string s]) (by simp [results, Tryz.results58, go_sem]) rfl ⟨rfl, ((Below.refl _ _).alloc (Nat.le_refl _) _).alloc (by simp) _⟩
set_option maxHeartbeats 400000 in
theorem opposite_bool (n : Int) (s : ByteArray) (w : World) :
    Calls Tryz.prog 58 #[.agg #[.int .i64 2, .int .i64 n, .string s]] w fun e w' => e = .returned (.agg #[.int .i64 2, .int .i64 (b2i (n == 0)), .string ⟨#[]⟩]) ∧ Below w.heap.size w w' := by
  go_enter Tryz.func58, Tryz.ntmps58
  go_wp2_with (go_at_call 43; refine (truth_any _ _).mono ?_; rintro e w1 ⟨rfl, hb1⟩; obtain ⟨⟨k0, k1, k2⟩, f0, f1, f2⟩ := ((Blk.new' (g := w.heap.size + 1) (by simp)).below hb1 (by simp)).three)
  exact bodyPost_ret (v := .agg #[.int .i64 2, .int .i64 (b2i (n == 0)), .string ⟨#[]⟩]) (by simp [results, Tryz.results58, go_sem, k0, k1, k2]) rfl
    ⟨rfl, st3 (thn (al (al (Below.refl _ _) _) _) hb1) (by simp) _ _ _⟩

/-- two values are the same -/
def veq (a b : Int) (s : ByteArray) (a' b' : Int) (s' : ByteArray) : Bool := a == a' && (b == b' && s.toList == s'.toList)
theorem eqV (a b : Int) (s : ByteArray) (a' b' : Int) (s' : ByteArray) (w : World) :
    (binOp .eql 35 (.agg #[.int .i64 a, .int .i64 b, .string s]) (.agg #[.int .i64 a', .int .i64 b', .string s'])).run Tryz.prog w = .ok (.bool (veq a b s a' b' s')) w := by
  have hS : Tryz.prog.underlying 35 = some (.struct (Tryz.prog.fieldsOf 35)) := by kernel_rfl
  have hp : Tryz.prog.stoodInHeld 35 = false := by kernel_rfl
  rw [run_eql_struct, show (10000 : Nat) = 9999 + 1 from rfl, run_equalIn_agg w 9999 35 _ _ hS hp]
  simp only [Program.fieldsOf, Tryz.underlying35]
  go_simp
  unfold veq
  by_cases h1 : a = a' <;> by_cases h2 : b = b' <;> by_cases h3 : s.toList = s'.toList <;> simp [h1, h2, h3]
end Go.Proofs.YtmhddoikicapjaaGreatDoor
