/-
  A REGION THAT DRAWS ITS ORDER, WHOSE FIRST OPERATIONS LOAD, CALL AND MAKE MEMORY IN ANY ORDER: each is shown ONCE, by what its own operands hold; what stands behind them comes in one order.
-/
import Derived.StillTail
import Derived.Below
import Derived.Deep.Draws
import Derived.RangeFuncCalls
import Derived.OrdersIn
import Derived.TacticsIn
namespace Go.Proofs.YtphgbfgccagcbaaGreatDoor
open Go.RowKit

section
variable {P : Program} {ops : Array Oper} {md : Region.Mode} {w : World}

/-- two frames that an operation can't tell apart -/
def Alike1 (ops : Array Oper) (o : Oper) (a b : Act) : Prop := ∀ t ∈ o.looksAt ops, a.tmps[t]? = b.tmps[t]?
theorem Alike1.exec {o : Oper} {a b : Act} (hs : ∀ cs b, o.op ≠ .select cs b) (h : Alike1 ops o a b) : execOp a.eval o = execOp b.eval o :=
  execOp_congr o hs fun x hx => by
    cases x with
    | tmp t =>
      have := h t (List.mem_append_left _ (List.mem_filterMap.2 ⟨.tmp t, by simpa using hx, rfl⟩))
      simp only [Act.eval, Array.getD_eq_getD_getElem?, this]
    | _ => rfl
/-- what holds when the operations S are done -/
structure GrowInv (ops : Array Oper) (md : Region.Mode) (n : Nat) (w : World) (D : Nat → Value → World → Prop) (fr : List Nat) (listed : Array Bool) (S : List Nat) (f : Nat → Value) (w' : World) : Prop where
  head : HeadInv md ops n listed
  nodup : S.Nodup
  mem : ∀ i, i ∈ S ↔ i < n ∧ listed.getD i false = true
  below : Below w.heap.size w w'
  done : ∀ i ∈ S, D i (f i) w'
  fresh : ∀ i ∈ S, i ∈ fr → ∃ g, f i = .pointer (some ⟨g, 0, none⟩) ∧ g < w'.heap.size
  apart : ∀ i ∈ S, ∀ j ∈ S, i ∈ fr → j ∈ fr → i ≠ j → f i ≠ f j

end
end Go.Proofs.YtphgbfgccagcbaaGreatDoor
