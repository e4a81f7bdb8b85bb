/-
  WHAT THE PACKAGE-LEVEL VARIABLES HOLD, as the contracts ask it; kept over whatever leaves old memory alone.
-/
import Derived.Test.YtmhddoikicapjaaGreatDoorVal7
import Derived.WalkSmall
namespace Go.Proofs.YtmhddoikicapjaaGreatDoor
open Go.RowKit

theorem gTab : Tryz.prog.globalNamed "internal/strconv.uint64pow10" = some 2 := by kernel_rfl
theorem gSyn : Tryz.prog.globalNamed "strconv.ErrSyntax" = some 5 := by kernel_rfl
theorem gRng : Tryz.prog.globalNamed "strconv.ErrRange" = some 6 := by kernel_rfl

def sNull : ByteArray := ⟨#[110, 117, 108, 108]⟩
def sFalse : ByteArray := ⟨#[102, 97, 108, 115, 101]⟩
def sTrue : ByteArray := ⟨#[116, 114, 117, 101]⟩
/-- the cells of value.words -/
def wordCells : Array Value := #[.string sNull, .string ⟨#[]⟩, .string ⟨#[]⟩, .string ⟨#[]⟩, .string sFalse, .string sTrue, .string ⟨#[]⟩, .string ⟨#[]⟩]

structure G (w : World) : Prop where
  max : ∃ m : Int, w.cell? ⟨1, 0, none⟩ = some (.int .i64 m)
  tab : Lib.TabIs Tryz.prog w "internal/strconv.uint64pow10" .u64 Lib.pow10Tab
  syn : ∃ tp p, w.var? Tryz.prog "strconv.ErrSyntax" = some #[.iface tp p]
  rng : ∃ tp p, w.var? Tryz.prog "strconv.ErrRange" = some #[.iface tp p]
  words : ∀ i, w.cell? ⟨0, i, none⟩ = wordCells[i]?
  big : 9 ≤ w.heap.size

theorem G.below {w w' : World} {B : Nat} (h : G w) (hb : Below B w w') (hB : 9 ≤ B) : G w' where
  max := by obtain ⟨m, hm⟩ := h.max; exact ⟨m, (hb.cell (p := ⟨1, 0, none⟩) (show 1 < B by omega)).trans hm⟩
  tab := var?_below hb gTab (by omega) h.tab
  syn := by obtain ⟨tp, p, hv⟩ := h.syn; exact ⟨tp, p, var?_below hb gSyn (by omega) hv⟩
  rng := by obtain ⟨tp, p, hv⟩ := h.rng; exact ⟨tp, p, var?_below hb gRng (by omega) hv⟩
  words := fun i => (hb.cell (p := ⟨0, i, none⟩) (show 0 < B by omega)).trans (h.words i)
  big := Nat.le_trans h.big hb.size
theorem G.thn {w w' : World} (h : G w) (hb : Below w.heap.size w w') : G w' := h.below hb h.big

theorem G.cells {w : World} (h : G w) :
    w.cell? ⟨0, 0, none⟩ = some (.string sNull) ∧ w.cell? ⟨0, 1, none⟩ = some (.string ⟨#[]⟩) ∧ w.cell? ⟨0, 2, none⟩ = some (.string ⟨#[]⟩) ∧ w.cell? ⟨0, 3, none⟩ = some (.string ⟨#[]⟩) ∧
    w.cell? ⟨0, 4, none⟩ = some (.string sFalse) ∧ w.cell? ⟨0, 5, none⟩ = some (.string sTrue) ∧ w.cell? ⟨0, 6, none⟩ = some (.string ⟨#[]⟩) ∧ w.cell? ⟨0, 7, none⟩ = some (.string ⟨#[]⟩) :=
  ⟨h.words 0, h.words 1, h.words 2, h.words 3, h.words 4, h.words 5, h.words 6, h.words 7⟩
end Go.Proofs.YtmhddoikicapjaaGreatDoor
