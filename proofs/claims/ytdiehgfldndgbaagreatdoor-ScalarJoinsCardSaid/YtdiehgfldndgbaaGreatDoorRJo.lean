/-
  FACTS of the program that the card of ScalarJoins wants: how it was translated.
-/
import Derived.Test.YtdiehgfldndgbaaGreatDoorCards
import Derived.ChangeMaps5
namespace Go.Proofs.YtdiehgfldndgbaaGreatDoor.cJo

theorem q26 : ((Rows.scalarJoinsRow.lifted == Tryz.pinned.checked.prog.liftsFinal)) = true := by kernel_rfl
theorem q27 : ((Tryz.pinned.checked.prog.make == some Rows.scalarJoinsRow.make)) = true := by kernel_rfl
theorem q22 : ((Rows.scalarJoinsRow.plainKeys == Tryz.pinned.checked.prog.plainKeys)) = true := by kernel_rfl
end Go.Proofs.YtdiehgfldndgbaaGreatDoor.cJo
