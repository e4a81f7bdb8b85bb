/-
  A LIST OF TOKENS THAT CAME IN, opened.
-/
import Derived.Test.YtphgbfgccagcbaaGreatDoorOpen
import Derived.Test.YtphgbfgccagcbaaGreatDoorGA07
namespace Go.Proofs.YtphgbfgccagcbaaGreatDoor
open Go.Joins Go.ChangeShapes Go.WideShapes Go.ChangeAt Go.RowKit Go.Deep

theorem cTk : Tryz.prog.cellsOf 36 = 3 := by kernel_rfl
section
variable {H : Type} {enc : TypeId × Value → H} {w : World} {base : Nat} {spare : Nat → Bool} {held : Bool}
theorem tok_of {a b c : Value} {n : Nat} {y0 y1 y2 : DataW H × List MemPlace} (h0 : DataW.trod enc Tryz.prog w base spare held n 34 [a] = some y0) (h1 : DataW.trod enc Tryz.prog w base spare held n 9 [b] = some y1) (h2 : DataW.trod enc Tryz.prog w base spare held n 3 [c] = some y2) :
    ∃ x : Tk, a = .int .i64 x.k ∧ b = .string x.s ∧ c = .int .i64 x.a ∧ x.s.size ≤ maxLen := by
  obtain ⟨k, e0, _, _⟩ := DataW.trod_int Tryz.underlying34 h0
  obtain ⟨s, e1, _, ws⟩ := DataW.trod_string Tryz.underlying9 h1
  obtain ⟨m, e2, _, _⟩ := DataW.trod_int Tryz.underlying3 h2
  exact ⟨⟨k, s, m⟩, by simpa using e0, by simpa using e1, by simpa using e2, ws⟩
set_option maxRecDepth 100000 in
/-- a slice of tokens that came in -/
theorem open_toks {v : Value} {d : DataW H} {p : List MemPlace} {r : Reach} {b0 : Nat} (hv : Value.okWide Tryz.prog w r b0 22 v) (h : DataW.Trod enc Tryz.prog w base spare held 22 v d p) :
    ∃ (A : Option Addr) (c : Nat) (l : List Tk), v = .slice A l.length c ∧ TkReads w w.heap.size A l ∧ (∀ x ∈ l, x.s.size ≤ maxLen) ∧ l.length ≤ maxLen := by
  obtain ⟨a0, len, cap, rfl⟩ := okWide_slice Tryz.underlying22 hv
  obtain ⟨fuel, hf⟩ := h
  rcases open_slice_fields Tryz.underlying22 Tryz.underlying36 (by kernel_rfl) cTk hf with ⟨hcs, _⟩ | ⟨a, len', cap', m, D, Pl, hcs, _, hl, hm, hmm, _, hi⟩
  · simp [Value.cells] at hcs
    obtain ⟨rfl, rfl, rfl⟩ := hcs
    exact ⟨none, 0, [], rfl, (fun h0 => absurd h0 (by simp)), (fun x hx => by cases hx), (by simp)⟩
  · simp [Value.cells] at hcs
    obtain ⟨rfl, rfl, rfl⟩ := hcs
    have hlm : len ≤ m := by rw [hmm]; split <;> omega
    obtain ⟨l, hll, hlp⟩ := list_of (p := fun i (x : Tk) => w.cell? (a.add (i * 3)) = some (.int .i64 x.k) ∧ w.cell? (a.add (i * 3 + 1)) = some (.string x.s) ∧ w.cell? (a.add (i * 3 + 2)) = some (.int .i64 x.a) ∧ x.s.size ≤ maxLen) len (fun i hil => by
      obtain ⟨ys, n, _, _, hyl, hfd⟩ := hi i (by omega)
      obtain ⟨u0, y0, c0, _, t0⟩ := hfd 0 _ rfl
      obtain ⟨u1, y1, c1, _, t1⟩ := hfd 1 _ rfl
      obtain ⟨u2, y2, c2, _, t2⟩ := hfd 2 _ rfl
      obtain ⟨x, rfl, rfl, rfl, hs⟩ := tok_of t0 t1 t2
      exact ⟨x, c0, c1, c2, hs⟩)
    have hmem : ∀ x ∈ l, x.s.size ≤ maxLen := fun x hx => by
      obtain ⟨i, hix⟩ := List.mem_iff_getElem?.1 hx
      exact (hlp i x hix).2.2.2
    subst hll
    refine ⟨some a, cap, l, rfl, fun h0 => ?_, fun x hx => hmem x hx, by omega⟩
    obtain ⟨b, o, sp⟩ := a
    have h00 := (hlp 0 _ (List.getElem?_eq_getElem h0)).1
    have hsp : sp = none := by simpa [Addr.add] using World.cell?_spot h00
    subst hsp
    have hb : b < w.heap.size := by
      have := block_lt_of_cell h00
      simpa [Addr.add] using this
    refine ⟨b, o, rfl, hb, fun i x hx => ?_⟩
    obtain ⟨c0, c1, c2, _⟩ := hlp i x hx
    simp only [add_plain] at c0 c1 c2
    exact ⟨c0, c1, c2⟩
end
end Go.Proofs.YtphgbfgccagcbaaGreatDoor
