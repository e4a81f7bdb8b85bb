/-
  FACTS of the program that the card of ScalarMoves wants: what its function names.
-/
import Derived.Test.YtdiehgfldndgbaaGreatDoorCards
import Derived.ChangeMaps5
namespace Go.Proofs.YtdiehgfldndgbaaGreatDoor.cMo

theorem q9 : ((Rows.scalarMovesRow.inPlace == Tryz.pinned.checked.prog.inPlace 4)) = true := by kernel_rfl
theorem q10 : ((Rows.scalarMovesRow.unfollowed == Tryz.pinned.checked.prog.unfollowed 4)) = true := by kernel_rfl
theorem q11 : ((Rows.scalarMovesRow.recurses == Tryz.pinned.checked.prog.recurses 4)) = true := by kernel_rfl
theorem q12 : ((Rows.scalarMovesRow.named == Tryz.pinned.checked.prog.varsNamed 4)) = true := by kernel_rfl
end Go.Proofs.YtdiehgfldndgbaaGreatDoor.cMo
