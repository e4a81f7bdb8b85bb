/-
  A WORLD FOR THE WITNESSES: the settled one, the listed variables holding what their initialisers lay.
-/
import Derived.Test.YtmhddoikicapjaaGreatDoorOpen
namespace Go.Proofs.YtmhddoikicapjaaGreatDoor
open Go.Joins Go.ChangeShapes Go.WideShapes Go.ChangeAt Go.RowKit Go.Deep

theorem rdV : Tryz.prog.readableRec 35 = true := by kernel_rfl
theorem rdVs : Tryz.prog.readableRec 22 = true := by kernel_rfl
theorem rdB : Tryz.prog.readableRec 4 = true := by kernel_rfl
theorem ltV : 35 < Tryz.prog.types.size := of_decide_eq_true (by kernel_rfl)
theorem ltVs : 22 < Tryz.prog.types.size := of_decide_eq_true (by kernel_rfl)
theorem ltB : 4 < Tryz.prog.types.size := of_decide_eq_true (by kernel_rfl)
/-- an argument reads as before, where old memory stands -/
theorem stays {H : Type} {enc : TypeId × Value → H} {t : TypeId} (hr : Tryz.prog.readableRec t = true) (hrow : t < Tryz.prog.types.size) {W W' : World} {sp : Nat → Bool} {v : Value} {d : DataW H} {ps : List MemPlace}
    (h : DataW.Trod enc Tryz.prog W 0 (fun _ => true) true t v d ps) (hb : Below W.heap.size W W') (hlt : ∀ p ∈ ps, p.block < W.heap.size) (hs : ∀ p ∈ ps, sp p.block = true) : DataW.Trod enc Tryz.prog W' 0 sp true t v d ps :=
  WideElems.Trod_stays laidOut hr hrow h (fun p hp => hb.same (hlt p hp)) hs

def flat1 : DataW Unit → List Value
  | .lit (.int k z) => [.int k z]
  | .lit (.string bs) => [.string ⟨bs.toArray⟩]
  | _ => []
def flat2 : DataW Unit → List Value
  | .agg l => l.flatMap flat1
  | d => flat1 d
def flat3 : DataW Unit → List Value
  | .agg l => l.flatMap flat2
  | d => flat2 d
abbrev synS : ByteArray := ⟨#[105, 110, 118, 97, 108, 105, 100, 32, 115, 121, 110, 116, 97, 120]⟩
abbrev rngS : ByteArray := ⟨#[118, 97, 108, 117, 101, 32, 111, 117, 116, 32, 111, 102, 32, 114, 97, 110, 103, 101]⟩
def setAt (cs : Array Value) : Obj → Obj
  | .cells _ t frozen => .cells cs t frozen
  | o => o
noncomputable def low : Nat := (World.holding Tryz.prog default ⟨#[], #[], []⟩).heap.size
noncomputable def laidWorld (os : Os) : World :=
  let w0 := World.holding Tryz.prog os ⟨#[.cells #[.string synS] 150, .cells #[.string rngS] 150], #[], []⟩
  { w0 with heap := (((((((w0.heap.modify 7 (setAt (flat3 Rows.laid_math_bits_deBruijn32tab).toArray)).modify 8 (setAt (flat3 Rows.laid_math_bits_deBruijn64tab).toArray)).modify 2 (setAt (flat3 Rows.laid_internal_strconv_uint64pow10).toArray)).modify 4 (setAt (flat3 Rows.laid_unicode_utf8_acceptRanges).toArray)).modify 5 (setAt #[.iface 148 (.pointer (some ⟨low, 0, none⟩))])).modify 6 (setAt #[.iface 148 (.pointer (some ⟨low + 1, 0, none⟩))])).modify 0 (setAt (flat3 Rows.laid_tactician_value_words).toArray)).modify 3 (setAt (flat3 Rows.laid_unicode_utf8_first).toArray) }
theorem laid_met (os : Os) (args : Array Value) : laidMet Tryz.prog laidList ((laidWorld os).forCall (fun _ _ => 0) ⟨#[], args, []⟩).memory :=
  laidMet_of_run' 8 (by kernel_rfl) (by kernel_rfl)
end Go.Proofs.YtmhddoikicapjaaGreatDoor
