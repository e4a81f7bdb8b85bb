/-
  FACTS of the program that the card of ScalarJoins wants: what its function names.
-/
import Derived.Test.YtdiehgfldndgbaaGreatDoorCards
import Derived.ChangeMaps5
namespace Go.Proofs.YtdiehgfldndgbaaGreatDoor.cJo

theorem q9 : ((Rows.scalarJoinsRow.inPlace == Tryz.pinned.checked.prog.inPlace 3)) = true := by kernel_rfl
theorem q10 : ((Rows.scalarJoinsRow.unfollowed == Tryz.pinned.checked.prog.unfollowed 3)) = true := by kernel_rfl
theorem q11 : ((Rows.scalarJoinsRow.recurses == Tryz.pinned.checked.prog.recurses 3)) = true := by kernel_rfl
theorem q12 : ((Rows.scalarJoinsRow.named == Tryz.pinned.checked.prog.varsNamed 3)) = true := by kernel_rfl
end Go.Proofs.YtdiehgfldndgbaaGreatDoor.cJo
