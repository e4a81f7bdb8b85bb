/-
  Cut: CONTRACTS of the statements' helper Cut.
  UniC: A variable that holds a value; '==' and '!=' of two values.
-/
import Derived.Test.YtphgbfgccagcbaaGreatDoorApp
import Derived.Test.YtphgbfgccagcbaaGreatDoorGA03
import Derived.Deep.RegionHeld3
namespace Go.Proofs.YtphgbfgccagcbaaGreatDoor
open Go.RowKit

/-- a value whose text is cut -/
def V.cut (v : V) : V := ⟨v.k, v.n, v.s.extract 0 (min (v.s.size : Int) 202).toNat⟩
def cut (m : Nat) (l : List V) : List V := (l.take m).map V.cut

end Go.Proofs.YtphgbfgccagcbaaGreatDoor
namespace Go.Proofs.YtphgbfgccagcbaaGreatDoor
open Go.RowKit

/-- a variable that holds a value: its three cells -/
def C3 (w : World) (g : Nat) (a b : Int) (s : ByteArray) : Prop :=
  g < w.heap.size ∧ w.cell? ⟨g, 0, none⟩ = some (.int .i64 a) ∧ w.cell? ⟨g, 1, none⟩ = some (.int .i64 b) ∧ w.cell? ⟨g, 2, none⟩ = some (.string s)
theorem C3.thn {w w' : World} {g : Nat} {a b : Int} {s : ByteArray} (h : C3 w g a b s) (hb : Below w.heap.size w w') : C3 w' g a b s :=
  ⟨Nat.lt_of_lt_of_le h.1 hb.size, (hb.cell (p := ⟨g, 0, none⟩) h.1).trans h.2.1, (hb.cell (p := ⟨g, 1, none⟩) h.1).trans h.2.2.1, (hb.cell (p := ⟨g, 2, none⟩) h.1).trans h.2.2.2⟩
theorem C3.al {w : World} {g : Nat} {a b : Int} {s : ByteArray} (h : C3 w g a b s) (o : Obj) : C3 (w.alloc o) g a b s := h.thn ((Below.refl _ _).alloc (Nat.le_refl _) o)
theorem C3.new {w : World} {T : TypeId} {a b : Int} {s : ByteArray} : C3 (w.alloc (.cells #[.int .i64 a, .int .i64 b, .string s] T)) w.heap.size a b s :=
  have h := Blk.new w T #[.int .i64 a, .int .i64 b, .string s]
  ⟨h.lt, h.cell 0, h.cell 1, h.cell 2⟩

end Go.Proofs.YtphgbfgccagcbaaGreatDoor
