/-
  A WORLD FOR THE WITNESSES of stage 3: as XWit's, package scalar's variables holding what their initialisers lay.
-/
import Derived.Test.YtdiehgfldndgbaaGreatDoorGA16
import Derived.Test.YtdiehgfldndgbaaGreatDoorLaS
namespace Go.Proofs.YtdiehgfldndgbaaGreatDoor
open Go.Joins Go.ChangeShapes Go.WideShapes Go.ChangeAt Go.RowKit Go.Deep

theorem rdX : Tryz.prog.readableRec 30 = true := by kernel_rfl
theorem ltX : 30 < Tryz.prog.types.size := of_decide_eq_true (by kernel_rfl)
noncomputable def laidWorldS (os : Os) : World :=
  { laidWorld os with heap := ((laidWorld os).heap.modify 0 (setAt (flat3 Rows.laid_tactician_scalar_shapes).toArray)).modify 1 (setAt (flat3 Rows.laid_tactician_scalar_kinds).toArray) }
theorem laid_metS (os : Os) (args : Array Value) : laidMet Tryz.prog laidListS ((laidWorldS os).forCall (fun _ _ => 0) ⟨#[], args, []⟩).memory :=
  laidMet_of_run' 8 (by kernel_rfl) (by kernel_rfl)
end Go.Proofs.YtdiehgfldndgbaaGreatDoor
