/-
  A REGION THAT DRAWS ITS ORDER AND CALLS WHAT MAKES MEMORY: the class of worlds 'old memory stands', as a type, so that the walk sees through it.
-/
import Derived.Test.YtphgbfgccagcbaaGreatDoorGA05
import Derived.Test.YtphgbfgccagcbaaGreatDoorAft
import Derived.Deep.DeepCutAuto
namespace Go.Proofs.YtphgbfgccagcbaaGreatDoor
open Go.RowKit

theorem C3.aft {W : World} {g : Nat} {a b : Int} {s : ByteArray} (h : C3 W g a b s) :
    (∀ x : Aft W, x.w.cell? ⟨g, 0, none⟩ = some (.int .i64 a)) ∧ (∀ x : Aft W, x.w.cell? ⟨g, 1, none⟩ = some (.int .i64 b)) ∧ (∀ x : Aft W, x.w.cell? ⟨g, 2, none⟩ = some (.string s)) :=
  ⟨fun x => (h.thn x.h).2.1, fun x => (h.thn x.h).2.2.1, fun x => (h.thn x.h).2.2.2⟩
end Go.Proofs.YtphgbfgccagcbaaGreatDoor
