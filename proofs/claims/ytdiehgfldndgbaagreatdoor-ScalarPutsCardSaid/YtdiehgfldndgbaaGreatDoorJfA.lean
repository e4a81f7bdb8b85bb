/-
  FACTS of the program that each card wants: how it is laid out.
-/
import Derived.Test.YtdiehgfldndgbaaGreatDoorCards
import Derived.ChangeMaps5
namespace Go.Proofs.YtdiehgfldndgbaaGreatDoor

theorem jf1 : laidOutB Tryz.pinned.checked.prog = true := by kernel_rfl
theorem jf2 : mapsRowed Tryz.pinned.checked.prog = true := by kernel_rfl
theorem jf24 : Tryz.pinned.checked.prog.stopsHeard = true := by kernel_rfl
end Go.Proofs.YtdiehgfldndgbaaGreatDoor
