/-
  A WORLD FOR THE WITNESSES of stage 8: the settled one, the listed variables holding what their initialisers lay.
-/
import Derived.Test.YtphgbfgccagcbaaGreatDoorOpT
import Derived.Test.YtphgbfgccagcbaaGreatDoorLaT
import Derived.Lay
namespace Go.Proofs.YtphgbfgccagcbaaGreatDoor
open Go.Joins Go.ChangeShapes Go.WideShapes Go.ChangeAt Go.RowKit Go.Deep

/-- an argument reads as before, where old memory stands -/
theorem stays {H : Type} {enc : TypeId × Value → H} {t : TypeId} (hr : Tryz.prog.readableRec t = true) (hrow : t < Tryz.prog.types.size) {W W' : World} {sp : Nat → Bool} {v : Value} {d : DataW H} {ps : List MemPlace}
    (h : DataW.Trod enc Tryz.prog W 0 (fun _ => true) true t v d ps) (hb : Below W.heap.size W W') (hlt : ∀ p ∈ ps, p.block < W.heap.size) (hs : ∀ p ∈ ps, sp p.block = true) : DataW.Trod enc Tryz.prog W' 0 sp true t v d ps :=
  WideElems.Trod_stays laidOut hr hrow h (fun p hp => hb.same (hlt p hp)) hs
noncomputable def laidWorldT (os : Os) : World := World.laidAll Tryz.prog os laidListT
theorem laidT_os (os : Os) : (laidWorldT os).os = os := World.laidAll_os _ _ _
theorem laid_metT (os : Os) (args : Array Value) : laidMet Tryz.prog laidListT ((laidWorldT os).forCall (fun _ _ => 0) ⟨#[], args, []⟩).memory :=
  laidMet_laidAll args (by kernel_rfl) (by kernel_rfl)
end Go.Proofs.YtphgbfgccagcbaaGreatDoor
