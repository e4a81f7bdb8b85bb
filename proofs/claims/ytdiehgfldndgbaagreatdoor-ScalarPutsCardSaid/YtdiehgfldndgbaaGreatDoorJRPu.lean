/-
  FACTS of the program that the card of ScalarPuts wants: how it was translated.
-/
import Derived.Test.YtdiehgfldndgbaaGreatDoorCards
import Derived.ChangeMaps5
namespace Go.Proofs.YtdiehgfldndgbaaGreatDoor.cPu

theorem q26 : ((Rows.scalarPutsRow.lifted == Tryz.pinned.checked.prog.liftsFinal)) = true := by kernel_rfl
theorem q27 : ((Tryz.pinned.checked.prog.make == some Rows.scalarPutsRow.make)) = true := by kernel_rfl
theorem q22 : ((Rows.scalarPutsRow.plainKeys == Tryz.pinned.checked.prog.plainKeys)) = true := by kernel_rfl
end Go.Proofs.YtdiehgfldndgbaaGreatDoor.cPu
