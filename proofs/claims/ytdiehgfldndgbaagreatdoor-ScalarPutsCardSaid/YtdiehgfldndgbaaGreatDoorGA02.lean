/-
  Plain: PLAIN MATHEMATICS of the values: what a text is, what a value is, how two are compared. No program stands in it.
  Num: A NUMBER of 64 bits (ahead of package value's texts, which have it in Val10).
-/
import Derived.Test.YtdiehgfldndgbaaGreatDoorRows
import Derived.Below
import Derived.Lib.Hide
import Derived.Laws.OwnMore
import Derived.Deep.AppendLies
import Derived.Deep.Draws
import Derived.Laws.Rows
namespace Go.Proofs.YtdiehgfldndgbaaGreatDoor
open Go.RowKit

/-- a byte that a text may have -/
def okByte (c : UInt8) : Bool := decide (32 ≤ (c.toNat : Int)) && decide ((c.toNat : Int) ≤ 126)
/-- all bytes are printable -/
def okBytes (l : List UInt8) : Bool := l.all okByte
/-- a text -/
def okText (l : List UInt8) : Bool := decide (l.length ≤ 200) && okBytes l
/-- a value -/
def okVal (k n : Int) (l : List UInt8) : Bool :=
  if k = 0 then n == 0 && l.isEmpty
  else if k = 1 then l.isEmpty
  else if k = 2 then (n == 0 || n == 1) && l.isEmpty
  else if k = 3 then n == 0 && okText l
  else false

theorem okBytes_snoc (l : List UInt8) (c : UInt8) : okBytes (l ++ [c]) = (okBytes l && okByte c) := by
  simp [okBytes]
theorem okBytes_bad (s : ByteArray) (k : Nat) (h : k < s.size) (hb : okByte s[k] = false) : okBytes s.data.toList = false := by
  unfold okBytes
  rw [List.all_eq_false]
  have hm : s[k] ∈ s.data.toList := Array.mem_toList_iff.2 (Array.getElem_mem (xs := s.data) (i := k) h)
  exact ⟨s[k], hm, by simp [hb]⟩
theorem okText_bad (s : ByteArray) (k : Nat) (h : k < s.size) (hb : okByte s[k] = false) : okText s.data.toList = false := by
  unfold okText; rw [okBytes_bad s k h hb]; simp
theorem okByte_iff (c : UInt8) : okByte c = true ↔ 32 ≤ (c.toNat : Int) ∧ (c.toNat : Int) ≤ 126 := by
  unfold okByte; simp only [Bool.and_eq_true, decide_eq_true_eq]
theorem okByte_no (c : UInt8) : okByte c = false ↔ (c.toNat : Int) < 32 ∨ 126 < (c.toNat : Int) := by
  rw [Bool.eq_false_iff, Ne, okByte_iff]; omega
/-- a value of the program: its Kind, its Int, its Text -/
structure V where
  k : Int
  n : Int
  s : ByteArray
def V.cells (v : V) : List Value := [.int .i64 v.k, .int .i64 v.n, .string v.s]
def V.val (v : V) : Value := .agg #[.int .i64 v.k, .int .i64 v.n, .string v.s]
def V.ok (v : V) : Bool := okVal v.k v.n v.s.data.toList
/-- the slice value '.slice A n c' reads as these values, and lies below block B -/
def VReads (w : World) (B : Nat) (A : Option Addr) (l : List V) : Prop :=
  0 < l.length → ∃ b o, A = some ⟨b, o, none⟩ ∧ b < B ∧ ∀ i (v : V), l[i]? = some v →
    w.cell? ⟨b, o + i * 3, none⟩ = some (.int .i64 v.k) ∧ w.cell? ⟨b, o + i * 3 + 1, none⟩ = some (.int .i64 v.n) ∧ w.cell? ⟨b, o + i * 3 + 2, none⟩ = some (.string v.s)
theorem VReads.below {w w' : World} {B B' : Nat} {A : Option Addr} {l : List V} (h : VReads w B A l) (hb : Below B w w') (hB : B ≤ B') : VReads w' B' A l := fun h0 => by
  obtain ⟨b, o, rfl, hblk, hc⟩ := h h0
  refine ⟨b, o, rfl, by omega, fun i v hi => ?_⟩
  obtain ⟨c0, c1, c2⟩ := hc i v hi
  exact ⟨(hb.cell (p := ⟨b, _, none⟩) hblk).trans c0, (hb.cell (p := ⟨b, _, none⟩) hblk).trans c1, (hb.cell (p := ⟨b, _, none⟩) hblk).trans c2⟩
theorem VReads.at_ {w : World} {B : Nat} {A : Option Addr} {l : List V} (h : VReads w B A l) {i : Nat} (hi : i < l.length) : ∃ b o, A = some ⟨b, o, none⟩ ∧ b < B ∧
    w.cell? ⟨b, o + i * 3, none⟩ = some (.int .i64 l[i].k) ∧ w.cell? ⟨b, o + i * 3 + 1, none⟩ = some (.int .i64 l[i].n) ∧ w.cell? ⟨b, o + i * 3 + 2, none⟩ = some (.string l[i].s) := by
  obtain ⟨b, o, rfl, hblk, hc⟩ := h (by omega)
  exact ⟨b, o, rfl, hblk, hc i _ (List.getElem?_eq_getElem hi)⟩
/-- every text fits -/
def VFit (l : List V) : Prop := ∀ v ∈ l, v.s.size ≤ maxLen
theorem take_snoc (s : ByteArray) (k : Nat) (h : k < s.size) : s.data.toList.take (k + 1) = s.data.toList.take k ++ [s[k]] := by
  rw [List.take_succ_eq_append_getElem (by simpa using h)]; rfl

/-- block g is just these cells, none frozen -/
def Blk (w : World) (g : Nat) (t : TypeId) (cs : Array Value) : Prop := w.heap[g]? = some (.cells cs t (0, 0))
section
variable {w w' : World} {g : Nat} {t : TypeId} {cs : Array Value}
theorem Blk.lt (h : Blk w g t cs) : g < w.heap.size := by
  rcases Nat.lt_or_ge g w.heap.size with hlt | hge
  · exact hlt
  · unfold Blk at h; rw [Array.getElem?_eq_none hge] at h; cases h
theorem Blk.cell (h : Blk w g t cs) (i : Nat) : w.cell? ⟨g, i, none⟩ = cs[i]? := cell_of_row w g i cs t (0, 0) h
theorem Blk.frozen (h : Blk w g t cs) (i : Nat) : w.frozen? ⟨g, i, none⟩ = false := by
  unfold Blk at h
  simp [World.frozen?, h]
theorem Blk.new (w : World) (t : TypeId) (cs : Array Value) : Blk (w.alloc (.cells cs t)) w.heap.size t cs := heap_alloc_new w _
theorem Blk.new' {w : World} {t : TypeId} {cs : Array Value} {g : Nat} (h : w.heap.size = g) : Blk (w.alloc (.cells cs t)) g t cs := by subst h; exact Blk.new w t cs
theorem Blk.alloc (h : Blk w g t cs) (o : Obj) : Blk (w.alloc o) g t cs := (Below.heap_alloc w o g h.lt).trans h
theorem Blk.set_ (h : Blk w g t cs) (i : Nat) (u : Value) : Blk (w.setCell ⟨g, i, none⟩ u) g t (cs.setIfInBounds i u) := by
  unfold Blk at h ⊢
  simp [World.setCell, Array.getElem?_modify, h]
theorem Blk.far (h : Blk w g t cs) {p : Addr} (hp : g ≠ p.block) (u : Value) : Blk (w.setCell p u) g t cs := (Below.heap_setCell w p u g hp).trans h
theorem Blk.below {B : Nat} (h : Blk w g t cs) (hb : Below B w w') (hg : g < B) : Blk w' g t cs := (hb.block g hg).trans h
theorem Blk.drewN (h : Blk w g t cs) (n : Nat) : Blk (w.drewN n) g t cs := h
end
theorem thn {w w0 w1 : World} (h : Below w.heap.size w w0) (h1 : Below w0.heap.size w0 w1) : Below w.heap.size w w1 := h.trans (h1.mono h.size)
theorem al {w w0 : World} (h : Below w.heap.size w w0) (o : Obj) : Below w.heap.size w (w0.alloc o) := h.alloc h.size o
theorem st3 {w w0 : World} {g : Nat} (h : Below w.heap.size w w0) (hg : w.heap.size ≤ g) (a b c : Value) :
    Below w.heap.size w (((w0.setCell ⟨g, 0, none⟩ a).setCell ⟨g, 1, none⟩ b).setCell ⟨g, 2, none⟩ c) :=
  ((h.setCell hg _).setCell hg _).setCell hg _
/-- a block of three cells -/
theorem Blk.three {w : World} {g : Nat} {t : TypeId} {a b c : Value} (h : Blk w g t #[a, b, c]) :
    (w.cell? ⟨g, 0, none⟩ = some a ∧ w.cell? ⟨g, 1, none⟩ = some b ∧ w.cell? ⟨g, 2, none⟩ = some c) ∧
    (w.frozen? ⟨g, 0, none⟩ = false ∧ w.frozen? ⟨g, 1, none⟩ = false ∧ w.frozen? ⟨g, 2, none⟩ = false) :=
  ⟨⟨h.cell 0, h.cell 1, h.cell 2⟩, ⟨h.frozen 0, h.frozen 1, h.frozen 2⟩⟩
theorem Blk.three_set {w : World} {g : Nat} {t : TypeId} {a b c : Value} (h : Blk w g t #[a, b, c]) (a' b' c' : Value) :
    Blk (((w.setCell ⟨g, 0, none⟩ a').setCell ⟨g, 1, none⟩ b').setCell ⟨g, 2, none⟩ c') g t #[a', b', c'] := by
  have := ((h.set_ 0 a').set_ 1 b').set_ 2 c'
  simpa using this
theorem Blk.far3 {w : World} {g g' : Nat} {t : TypeId} {cs : Array Value} (h : Blk w g t cs) (hg : g ≠ g') (a b c : Value) :
    Blk (((w.setCell ⟨g', 0, none⟩ a).setCell ⟨g', 1, none⟩ b).setCell ⟨g', 2, none⟩ c) g t cs := ((h.far hg _).far hg _).far hg _
theorem below_drewN {B : Nat} {a w : World} (h : Below B a w) (n : Nat) : Below B a (w.drewN n) := ⟨h.os, h.tape, h.output, h.size, h.block⟩
end Go.Proofs.YtdiehgfldndgbaaGreatDoor
namespace Go.Proofs.YtdiehgfldndgbaaGreatDoor
def I64 (n : Int) : Prop := -9223372036854775808 ≤ n ∧ n ≤ 9223372036854775807
end Go.Proofs.YtdiehgfldndgbaaGreatDoor
