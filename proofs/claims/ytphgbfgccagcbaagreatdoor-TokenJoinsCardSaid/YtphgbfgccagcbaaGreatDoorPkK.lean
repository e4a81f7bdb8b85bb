/-
  WHAT A ROUND OF A RANGE OVER A FUNCTION KEEPS: below a bound all but one block.
-/
import Derived.Test.YtphgbfgccagcbaaGreatDoorPkI
import Derived.RangeFuncNested
import Derived.RangeFuncBound
import Derived.RangeFuncCalls
import Derived.Maps.AppendAt
namespace Go.Proofs.YtphgbfgccagcbaaGreatDoor
open Go.RowKit Go.Shelf

/-- below n all but block Bo stands -/
def Kp0 (n Bo : Nat) (A B : World) : Prop := B.os = A.os ∧ B.tape = A.tape ∧ B.output = A.output ∧ A.heap.size ≤ B.heap.size ∧ ∀ k, k < n → k ≠ Bo → B.heap[k]? = A.heap[k]?
theorem Kp0.refl (n Bo : Nat) (A : World) : Kp0 n Bo A A := ⟨rfl, rfl, rfl, Nat.le_refl _, fun _ _ _ => rfl⟩
theorem Kp0.trans {n Bo : Nat} {A B C : World} (h : Kp0 n Bo A B) (k : Kp0 n Bo B C) : Kp0 n Bo A C :=
  ⟨k.1.trans h.1, k.2.1.trans h.2.1, k.2.2.1.trans h.2.2.1, Nat.le_trans h.2.2.2.1 k.2.2.2.1, fun j h1 h2 => (k.2.2.2.2 j h1 h2).trans (h.2.2.2.2 j h1 h2)⟩
theorem Kp0.put {n Bo : Nat} (W : World) (l : Nat) (o : Obj) (hl : n ≤ l) : Kp0 n Bo W (W.putObj l o) :=
  ⟨rfl, rfl, rfl, by simp [World.putObj], fun k h1 _ => World.putObj_heap_other (by omega)⟩
theorem Kp0.of_below {n Bo : Nat} {A B : World} (hb : Below A.heap.size A B) (hn : n ≤ A.heap.size) : Kp0 n Bo A B := ⟨hb.os, hb.tape, hb.output, hb.size, fun k h1 _ => hb.block k (by omega)⟩
theorem Kp0.set_ {n Bo : Nat} (W : World) (i : Nat) (u : Value) : Kp0 n Bo W (W.setCell ⟨Bo, i, none⟩ u) :=
  ⟨rfl, rfl, rfl, by simp [World.setCell], fun k _ h2 => Below.heap_setCell _ _ _ _ (by simpa using h2)⟩
theorem Kp0.grown {n Bo : Nat} {A B : World} {row : Option Nat} (hg : A.grownBy B row) (hn : n ≤ A.heap.size) (hr : ∀ r, row = some r → n ≤ r) : Kp0 n Bo A B :=
  ⟨hg.os, hg.tape, hg.output, hg.size, fun k h1 _ => hg.block k (by omega) (fun e => by have := hr k e.symm; omega)⟩
theorem Kp0.cell {n Bo : Nat} {A B : World} (h : Kp0 n Bo A B) {b o : Nat} (hb : b < n) (hB : b ≠ Bo) : B.cell? ⟨b, o, none⟩ = A.cell? ⟨b, o, none⟩ := by
  simp only [World.cell?, h.2.2.2.2 b hb hB]
theorem Kp0.blk {n Bo : Nat} {A B : World} (h : Kp0 n Bo A B) {b : Nat} {T : TypeId} {cs : Array Value} (hb : b < n) (hB : b ≠ Bo) (hk : Blk A b T cs) : Blk B b T cs := (h.2.2.2.2 b hb hB).trans hk
theorem Kp0.low {n Bo : Nat} {A B : World} (h : Kp0 n Bo A B) (hB : Bo ≤ n) : Below Bo A B := ⟨h.1, h.2.1, h.2.2.1, h.2.2.2.1, fun k hk => h.2.2.2.2 k (by omega) (by omega)⟩
theorem Kp0.keeps {n : Nat} {A B : World} (hb : Below A.heap.size A B) : KeepsFrom n A B := ⟨hb.size, fun k o _ hk _ => by
  have hlt : k < A.heap.size := by
    rcases Nat.lt_or_ge k A.heap.size with h' | h'
    · exact h'
    · rw [Array.getElem?_eq_none h'] at hk; cases hk
  exact (hb.block k hlt).trans hk⟩
theorem own_slice {w : World} {base : Nat} {e : TypeId} {size n : Nat} {v : Value} {xs : List Value} (h : w.ownsRow base e size v n xs) : ∃ ao c, v = .slice ao n c := by
  rcases h.2 with ⟨rfl, rfl⟩ | ⟨g, cap, cur, rfl, _⟩
  · exact ⟨_, _, rfl⟩
  · exact ⟨_, _, rfl⟩
end Go.Proofs.YtphgbfgccagcbaaGreatDoor
