/-
  FACTS of the program that the card of ScalarPuts wants: what its function names.
-/
import Derived.Test.YtdiehgfldndgbaaGreatDoorCards
import Derived.ChangeMaps5
namespace Go.Proofs.YtdiehgfldndgbaaGreatDoor.cPu

theorem q9 : ((Rows.scalarPutsRow.inPlace == Tryz.pinned.checked.prog.inPlace 5)) = true := by kernel_rfl
theorem q10 : ((Rows.scalarPutsRow.unfollowed == Tryz.pinned.checked.prog.unfollowed 5)) = true := by kernel_rfl
theorem q11 : ((Rows.scalarPutsRow.recurses == Tryz.pinned.checked.prog.recurses 5)) = true := by kernel_rfl
theorem q12 : ((Rows.scalarPutsRow.named == Tryz.pinned.checked.prog.varsNamed 5)) = true := by kernel_rfl
end Go.Proofs.YtdiehgfldndgbaaGreatDoor.cPu
