/-
  THE ARGUMENTS OPENED: a list of rows.
-/
import Derived.Test.YtapnnheggjahlaaGreatDoorGE
import Derived.Test.YtapnnheggjahlaaGreatDoorLRO
namespace Go.Proofs.YtapnnheggjahlaaGreatDoor
open Go.Joins Go.ChangeShapes Go.WideShapes Go.ChangeAt Go.RowKit Go.Deep

section
variable {H : Type} {enc : TypeId × Value → H} {w : World} {base : Nat} {spare : Nat → Bool} {held : Bool}
set_option maxRecDepth 100000 in
/-- a row, read as data -/
theorem row_of {u : Value} {fuel : Nat} {x : DataW H × List MemPlace} (h : DataW.trod enc Tryz.prog w base spare held fuel 34 [u] = some x) :
    ∃ (A : Option Addr) (c : Nat) (l : List V), u = .slice A l.length c ∧ VReads w w.heap.size A l ∧ InV l := by
  rcases open_slice_fields Tryz.underlying34 Tryz.underlying78 (by kernel_rfl) cV h with ⟨hcs, _⟩ | ⟨a, len, cap, m, D, Pl, hcs, _, hl, hm, hmm, _, hi⟩
  · simp only [List.cons.injEq, and_true] at hcs
    subst hcs
    exact ⟨none, 0, [], rfl, (fun h0 => absurd h0 (by simp)), ⟨by simp, fun x hx => by cases hx⟩⟩
  · simp only [List.cons.injEq, and_true] at hcs
    subst hcs
    have hlm : len ≤ m := by rw [hmm]; split <;> omega
    obtain ⟨l, hll, hlp⟩ := list_of (p := fun i (x : V) => w.cell? (a.add (i * 3)) = some (.int .i64 x.k) ∧ w.cell? (a.add (i * 3 + 1)) = some (.int .i64 x.n) ∧ w.cell? (a.add (i * 3 + 2)) = some (.string x.s) ∧ x.s.size ≤ maxLen ∧ I64 x.k ∧ I64 x.n) len (fun i hil => by
      obtain ⟨ys, n, _, _, hyl, hfd⟩ := hi i (by omega)
      obtain ⟨u0, y0, c0, _, t0⟩ := hfd 0 _ rfl
      obtain ⟨u1, y1, c1, _, t1⟩ := hfd 1 _ rfl
      obtain ⟨u2, y2, c2, _, t2⟩ := hfd 2 _ rfl
      obtain ⟨x, rfl, rfl, rfl, hs, hk, hn⟩ := value_of t0 t1 t2
      exact ⟨x, c0, c1, c2, hs, hk, hn⟩)
    have hmem : ∀ x ∈ l, x.s.size ≤ maxLen ∧ I64 x.n := fun x hx => by
      obtain ⟨i, hix⟩ := List.mem_iff_getElem?.1 hx
      have := (hlp i x hix).2.2.2
      exact ⟨this.1, this.2.2⟩
    subst hll
    refine ⟨some a, cap, l, rfl, fun h0 => ?_, by omega, hmem⟩
    obtain ⟨b, o, sp⟩ := a
    have h00 := (hlp 0 _ (List.getElem?_eq_getElem h0)).1
    have hsp : sp = none := by simpa [Addr.add] using World.cell?_spot h00
    subst hsp
    have hb : b < w.heap.size := by
      have := block_lt_of_cell h00
      simpa [Addr.add] using this
    refine ⟨b, o, rfl, hb, fun i x hx => ?_⟩
    obtain ⟨c0, c1, c2, _⟩ := hlp i x hx
    simp only [add_plain] at c0 c1 c2
    exact ⟨c0, c1, c2⟩
theorem cR : Tryz.prog.cellsOf 34 = 1 := by kernel_rfl
set_option maxRecDepth 100000 in
/-- rows that came in -/
theorem open_rows {v : Value} {d : DataW H} {p : List MemPlace} {r : Reach} {b0 : Nat} (hv : Value.okWide Tryz.prog w r b0 23 v) (h : DataW.Trod enc Tryz.prog w base spare held 23 v d p) :
    ∃ (A : Option Addr) (c : Nat) (L : List (List V)), v = .slice A L.length c ∧ LReads0 w w.heap.size A L ∧ InL L ∧ L.length ≤ c := by
  obtain ⟨a0, len, cap, rfl⟩ := okWide_slice Tryz.underlying23 hv
  obtain ⟨fuel, hf⟩ := h
  rcases open_slice Tryz.underlying23 hf with ⟨hcs, _⟩ | ⟨a, len', cap', m, n, D, Pl, hcs, hb, hl, hm, hmm, _, hi⟩
  · simp [Value.cells] at hcs
    obtain ⟨rfl, rfl, rfl⟩ := hcs
    exact ⟨none, 0, [], rfl, (fun h0 => absurd h0 (by simp)), ⟨by simp, fun x hx => by cases hx⟩, by simp⟩
  · simp [Value.cells] at hcs
    obtain ⟨rfl, rfl, rfl⟩ := hcs
    have hlm : len ≤ m := by rw [hmm]; split <;> omega
    obtain ⟨L, hll, hlp⟩ := list_of (p := fun i (x : List V) => ∃ Ar cr, w.cell? (a.add i) = some (.slice Ar x.length cr) ∧ VReads w w.heap.size Ar x ∧ InV x) len (fun i hil => by
      obtain ⟨cs', hc, ht'⟩ := hi i (by omega)
      rw [cR] at hc
      obtain ⟨_, hcl, hat⟩ := World.cells?_some hc
      have hcell := hat 0 (by omega)
      have h1 : cs' = [cs'[0]'(by omega)] := by
        match cs', hcl with
        | [u], _ => rfl
      rw [h1] at ht'
      obtain ⟨A, c, l, hu, hr, hI⟩ := row_of ht'
      refine ⟨l, A, c, ?_, hr, hI⟩
      rw [Nat.mul_one, List.getElem?_eq_getElem (by omega), hu] at hcell
      have e0 : (a.add i).add 0 = a.add i := by rw [Go.Deep.add_add]; rfl
      rw [← hcell, e0])
    have hmem : ∀ x ∈ L, InV x := fun x hx => by
      obtain ⟨i, hix⟩ := List.mem_iff_getElem?.1 hx
      obtain ⟨_, _, _, _, h3⟩ := hlp i x hix
      exact h3
    subst hll
    refine ⟨some a, cap, L, rfl, fun h0 => ?_, ⟨by omega, fun r hr => hmem r hr⟩, hl⟩
    obtain ⟨b, o, sp⟩ := a
    obtain ⟨_, _, h00, _, _⟩ := hlp 0 _ (List.getElem?_eq_getElem h0)
    have hsp : sp = none := by simpa [Addr.add] using World.cell?_spot h00
    subst hsp
    have hb : b < w.heap.size := by
      have := block_lt_of_cell h00
      simpa [Addr.add] using this
    refine ⟨b, o, rfl, hb, fun i x hx => ?_⟩
    obtain ⟨Ar, cr, c0, hr, _⟩ := hlp i x hx
    simp only [add_plain] at c0
    exact ⟨Ar, cr, c0, hr⟩
end
end Go.Proofs.YtapnnheggjahlaaGreatDoor
