/-
  FACTS of the program that the card of ScalarMoves wants: how it was translated.
-/
import Derived.Test.YtdiehgfldndgbaaGreatDoorCards
import Derived.ChangeMaps5
namespace Go.Proofs.YtdiehgfldndgbaaGreatDoor.cMo

theorem q26 : ((Rows.scalarMovesRow.lifted == Tryz.pinned.checked.prog.liftsFinal)) = true := by kernel_rfl
theorem q27 : ((Tryz.pinned.checked.prog.make == some Rows.scalarMovesRow.make)) = true := by kernel_rfl
theorem q22 : ((Rows.scalarMovesRow.plainKeys == Tryz.pinned.checked.prog.plainKeys)) = true := by kernel_rfl
end Go.Proofs.YtdiehgfldndgbaaGreatDoor.cMo
