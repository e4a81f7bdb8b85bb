/-
  A variable that holds a value; '==' and '!=' of two values.
-/
import Derived.Test.YtmhddoikicapjaaGreatDoorCut
namespace Go.Proofs.YtmhddoikicapjaaGreatDoor
open Go.RowKit

def zV : V := ⟨0, 0, ⟨#[]⟩⟩
/-- a variable that holds a value: its three cells -/
def C3 (w : World) (g : Nat) (a b : Int) (s : ByteArray) : Prop :=
  g < w.heap.size ∧ w.cell? ⟨g, 0, none⟩ = some (.int .i64 a) ∧ w.cell? ⟨g, 1, none⟩ = some (.int .i64 b) ∧ w.cell? ⟨g, 2, none⟩ = some (.string s)
theorem C3.thn {w w' : World} {g : Nat} {a b : Int} {s : ByteArray} (h : C3 w g a b s) (hb : Below w.heap.size w w') : C3 w' g a b s :=
  ⟨Nat.lt_of_lt_of_le h.1 hb.size, (hb.cell (p := ⟨g, 0, none⟩) h.1).trans h.2.1, (hb.cell (p := ⟨g, 1, none⟩) h.1).trans h.2.2.1, (hb.cell (p := ⟨g, 2, none⟩) h.1).trans h.2.2.2⟩
theorem C3.al {w : World} {g : Nat} {a b : Int} {s : ByteArray} (h : C3 w g a b s) (o : Obj) : C3 (w.alloc o) g a b s := h.thn ((Below.refl _ _).alloc (Nat.le_refl _) o)
theorem C3.new {w : World} {T : TypeId} {a b : Int} {s : ByteArray} : C3 (w.alloc (.cells #[.int .i64 a, .int .i64 b, .string s] T)) w.heap.size a b s :=
  have h := Blk.new w T #[.int .i64 a, .int .i64 b, .string s]
  ⟨h.lt, h.cell 0, h.cell 1, h.cell 2⟩

theorem veq_self (a b : Int) (s : ByteArray) : veq a b s a b s = true := by simp [veq]
theorem veq_iff {a b : Int} {s : ByteArray} {a' b' : Int} {s' : ByteArray} : veq a b s a' b' s' = true ↔ (⟨a, b, s⟩ : V) = ⟨a', b', s'⟩ := by
  unfold veq
  rw [ByteArray.toList_eq, ByteArray.toList_eq]
  obtain ⟨⟨x⟩⟩ := s
  obtain ⟨⟨y⟩⟩ := s'
  simp

theorem neqV (a b : Int) (s : ByteArray) (a' b' : Int) (s' : ByteArray) (w : World) :
    (binOp .neq 35 (.agg #[.int .i64 a, .int .i64 b, .string s]) (.agg #[.int .i64 a', .int .i64 b', .string s'])).run Tryz.prog w = .ok (.bool (!veq a b s a' b' s')) w := by
  have hS : Tryz.prog.underlying 35 = some (.struct (Tryz.prog.fieldsOf 35)) := by kernel_rfl
  have hp : Tryz.prog.stoodInHeld 35 = false := by kernel_rfl
  rw [run_neq_struct, show (10000 : Nat) = 9999 + 1 from rfl, run_equalIn_agg w 9999 35 _ _ hS hp]
  simp only [Program.fieldsOf, Tryz.underlying35]
  go_simp
  unfold veq
  by_cases h1 : a = a' <;> by_cases h2 : b = b' <;> by_cases h3 : s.toList = s'.toList <;> simp [h1, h2, h3]

end Go.Proofs.YtmhddoikicapjaaGreatDoor
