/-
  MEMORY that may be written: lists of rows whose memory lies behind a mark, whatever lies in it.
-/
import Derived.Test.YtapnnheggjahlaaGreatDoorLRG
namespace Go.Proofs.YtapnnheggjahlaaGreatDoor
open Go.RowKit

abbrev tV : TypeId := 78
abbrev tR : TypeId := 34
abbrev tL : TypeId := 23
/-- a row that may be written -/
def RowOk (w : World) (N : Nat) (u : Value) : Prop := ∃ A n c, u = .slice A n c ∧ n ≤ 1000000 ∧ (0 < n → ∃ b o cs, A = some ⟨b, o, none⟩ ∧ N ≤ b ∧ Blk w b tV cs ∧ o + n * 3 ≤ cs.size)
/-- a list of rows that may be written -/
def HdrOk (w : World) (N : Nat) (u : Value) : Prop := ∃ A n c, u = .slice A n c ∧ n ≤ 1000000 ∧ (0 < n → ∃ g o cs, A = some ⟨g, o, none⟩ ∧ N ≤ g ∧ Blk w g tR cs ∧ ∀ m, m < n → ∃ r, cs[o + m]? = some r ∧ RowOk w N r)
theorem blk_types {w : World} {g : Nat} {s t : TypeId} {cs ds : Array Value} (h : Blk w g s cs) (k : Blk w g t ds) : s = t := by
  have := h.symm.trans k
  injection this with this
  injection this
theorem RowOk.nil (w : World) (N : Nat) : RowOk w N (.slice none 0 0) := ⟨none, 0, 0, rfl, Nat.zero_le _, fun h => absurd h (by omega)⟩
theorem RowOk.below {w w' : World} {N : Nat} {u : Value} (h : RowOk w N u) (hb : Below w.heap.size w w') : RowOk w' N u := by
  obtain ⟨A, n, c, e, hn, h⟩ := h
  exact ⟨A, n, c, e, hn, fun h0 => by
    obtain ⟨b, o, cs, e1, e2, e3, e4⟩ := h h0
    exact ⟨b, o, cs, e1, e2, e3.below hb e3.lt, e4⟩⟩
theorem HdrOk.below {w w' : World} {N : Nat} {u : Value} (h : HdrOk w N u) (hb : Below w.heap.size w w') : HdrOk w' N u := by
  obtain ⟨A, n, c, e, hn, h⟩ := h
  exact ⟨A, n, c, e, hn, fun h0 => by
    obtain ⟨b, o, cs, e1, e2, e3, e4⟩ := h h0
    exact ⟨b, o, cs, e1, e2, e3.below hb e3.lt, fun m hm => by
      obtain ⟨r, h1, h2⟩ := e4 m hm
      exact ⟨r, h1, h2.below hb⟩⟩⟩
theorem RowOk.grown {w w' : World} {N : Nat} {u : Value} {row : Option Nat} (h : RowOk w N u) (hg : w.grownBy w' row) (hr : ∀ g, row = some g → ∃ cs, Blk w g tL cs) : RowOk w' N u := by
  obtain ⟨A, n, c, e, hn, h⟩ := h
  exact ⟨A, n, c, e, hn, fun h0 => by
    obtain ⟨b, o, cs, e1, e2, e3, e4⟩ := h h0
    exact ⟨b, o, cs, e1, e2, e3.grown hg (fun e => by
      obtain ⟨cs', hb⟩ := hr b e.symm
      exact absurd (blk_types e3 hb) (by decide)), e4⟩⟩
theorem HdrOk.grown {w w' : World} {N : Nat} {u : Value} {row : Option Nat} (h : HdrOk w N u) (hg : w.grownBy w' row) (hr : ∀ g, row = some g → ∃ cs, Blk w g tL cs) : HdrOk w' N u := by
  obtain ⟨A, n, c, e, hn, h⟩ := h
  exact ⟨A, n, c, e, hn, fun h0 => by
    obtain ⟨b, o, cs, e1, e2, e3, e4⟩ := h h0
    exact ⟨b, o, cs, e1, e2, e3.grown hg (fun e => by
      obtain ⟨cs', hb⟩ := hr b e.symm
      exact absurd (blk_types e3 hb) (by decide)), fun m hm => by
      obtain ⟨r, h1, h2⟩ := e4 m hm
      exact ⟨r, h1, h2.grown hg hr⟩⟩⟩
theorem RowOk.setV {w : World} {N b : Nat} {u x : Value} {cs : Array Value} {j : Nat} (h : RowOk w N u) (hb : Blk w b tV cs) : RowOk (w.setCell ⟨b, j, none⟩ x) N u := by
  obtain ⟨A, n, c, e, hn, h⟩ := h
  exact ⟨A, n, c, e, hn, fun h0 => by
    obtain ⟨b', o, cs', e1, e2, e3, e4⟩ := h h0
    by_cases hbb : b' = b
    · subst hbb
      exact ⟨b', o, _, e1, e2, e3.set_ j x, by simpa using e4⟩
    · exact ⟨b', o, cs', e1, e2, e3.far hbb x, e4⟩⟩
theorem RowOk.setH {w : World} {N g : Nat} {u x : Value} {cs : Array Value} {j : Nat} (h : RowOk w N u) (hb : Blk w g tR cs) : RowOk (w.setCell ⟨g, j, none⟩ x) N u := by
  obtain ⟨A, n, c, e, hn, h⟩ := h
  exact ⟨A, n, c, e, hn, fun h0 => by
    obtain ⟨b', o, cs', e1, e2, e3, e4⟩ := h h0
    have hne : b' ≠ g := fun e => by subst e; exact absurd (blk_types e3 hb) (by decide)
    exact ⟨b', o, cs', e1, e2, e3.far hne x, e4⟩⟩
theorem HdrOk.setV {w : World} {N b : Nat} {u x : Value} {cs : Array Value} {j : Nat} (h : HdrOk w N u) (hb : Blk w b tV cs) : HdrOk (w.setCell ⟨b, j, none⟩ x) N u := by
  obtain ⟨A, n, c, e, hn, h⟩ := h
  exact ⟨A, n, c, e, hn, fun h0 => by
    obtain ⟨g, o, cs', e1, e2, e3, e4⟩ := h h0
    have hne : g ≠ b := fun e => by subst e; exact absurd (blk_types e3 hb) (by decide)
    exact ⟨g, o, cs', e1, e2, e3.far hne x, fun m hm => by
      obtain ⟨r, h1, h2⟩ := e4 m hm
      exact ⟨r, h1, h2.setV hb⟩⟩⟩
theorem HdrOk.setH {w : World} {N g : Nat} {u : Value} {cs : Array Value} {j : Nat} (h : HdrOk w N u) (hb : Blk w g tR cs) : HdrOk (w.setCell ⟨g, j, none⟩ (.slice none 0 0)) N u := by
  obtain ⟨A, n, c, e, hn, h⟩ := h
  exact ⟨A, n, c, e, hn, fun h0 => by
    obtain ⟨g', o, cs', e1, e2, e3, e4⟩ := h h0
    by_cases hgg : g' = g
    · subst hgg
      refine ⟨g', o, _, e1, e2, e3.set_ j _, fun m hm => ?_⟩
      obtain ⟨r, h1, h2⟩ := e4 m hm
      by_cases hj : o + m = j
      · have hlt : j < cs'.size := by
          rcases Nat.lt_or_ge j cs'.size with h' | h'
          · exact h'
          · rw [hj, Array.getElem?_eq_none h'] at h1; cases h1
        exact ⟨.slice none 0 0, by rw [hj]; simp [hlt], RowOk.nil _ _⟩
      · refine ⟨r, ?_, h2.setH hb⟩
        rw [Array.getElem?_setIfInBounds_ne (fun e => hj e.symm)]; exact h1
    · exact ⟨g', o, cs', e1, e2, e3.far hgg _, fun m hm => by
        obtain ⟨r, h1, h2⟩ := e4 m hm
        exact ⟨r, h1, h2.setH hb⟩⟩⟩
theorem own_rowOk {w : World} {base N : Nat} {v : Value} {r : List V} (h : OwnR w base v r) (hN : N ≤ base) (hr : r.length ≤ 1000000) : RowOk w N v := by
  rcases h.2 with ⟨rfl, h0⟩ | ⟨g, cap, cur, rfl, hb, hh, hnc, _, hsz, _⟩
  · exact ⟨none, 0, 0, rfl, Nat.zero_le _, fun h => absurd h (by omega)⟩
  · exact ⟨_, _, _, rfl, hr, fun _ => ⟨g, 0, cur, rfl, by omega, hh, by rw [hsz]; omega⟩⟩
/-- a part of a block of rows -/
theorem blk_hdr {w : World} {base N g f n c : Nat} {vs : List Value} {S : List (List V)} (hb : Blk w g tR vs.toArray) (ho : OwnRs w base vs S) (hg : N ≤ g) (hN : N ≤ base) (hS : ∀ r ∈ S, r.length ≤ 1000000) (hf : f + n ≤ S.length) (hn : n ≤ 1000000) : HdrOk w N (.slice (some ⟨g, f, none⟩) n c) :=
  ⟨_, _, _, rfl, hn, fun _ => ⟨g, f, _, rfl, hg, hb, fun m hm => by
    have hl : f + m < vs.length := by rw [ho.1]; omega
    have hl2 : f + m < S.length := by omega
    exact ⟨vs[f + m], by simp [hl], own_rowOk (ho.2 (f + m) _ S[f + m] (by simp [hl]) (by simp [hl2])) hN (hS _ (List.getElem_mem hl2))⟩⟩⟩
theorem OutR.hdr {w w' : World} {N : Nat} {v : Value} {R : List (List V)} (h : OutR w w' v R) (hN : N ≤ w.heap.size) (hS : ∀ r ∈ R, r.length ≤ 1000000) (hn : R.length ≤ 1000000) : HdrOk w' N v := by
  obtain ⟨vs, ho, hrs⟩ := h
  rcases ho.2 with ⟨rfl, h0⟩ | ⟨g, cap, cur, rfl, hb, hh, hnc, _, hsz, htk⟩
  · exact ⟨none, 0, 0, rfl, Nat.zero_le _, fun h => absurd h (by omega)⟩
  · refine ⟨_, _, _, rfl, hn, fun _ => ⟨g, 0, cur, rfl, by omega, hh, fun m hm => ?_⟩⟩
    have hl : m < vs.length := by rw [hrs.1]; exact hm
    obtain ⟨y, hy⟩ : ∃ y, vs[m]? = some y := ⟨_, List.getElem?_eq_getElem hl⟩
    refine ⟨y, ?_, own_rowOk (hrs.2 m y R[m] hy (by simp [hm])) hN (hS _ (List.getElem_mem hm))⟩
    rw [← htk, List.getElem?_take, if_pos (by omega)] at hy
    rw [Nat.zero_add]
    simpa using hy
/-- what stands while the lists are written -/
structure WInv (w2 : World) (gl : Nat) (csL : Array Value) (n0 : Nat) (w : World) : Prop where
  low : Below w2.heap.size w2 w
  blk : Blk w gl tL csL
  hdr : ∀ i, i < n0 → ∃ u, csL[i]? = some u ∧ HdrOk w w2.heap.size u
theorem WInv.below {w2 w w' : World} {gl n0 : Nat} {csL : Array Value} (h : WInv w2 gl csL n0 w) (hb : Below w.heap.size w w') : WInv w2 gl csL n0 w' :=
  ⟨thn h.low hb, h.blk.below hb h.blk.lt, fun i hi => by obtain ⟨u, h1, h2⟩ := h.hdr i hi; exact ⟨u, h1, h2.below hb⟩⟩
theorem WInv.setV {w2 w : World} {gl n0 b j : Nat} {csL cs : Array Value} {x : Value} (h : WInv w2 gl csL n0 w) (hb : Blk w b tV cs) (hN : w2.heap.size ≤ b) : WInv w2 gl csL n0 (w.setCell ⟨b, j, none⟩ x) := by
  have hne : gl ≠ b := fun e => by subst e; exact absurd (blk_types h.blk hb) (by decide)
  exact ⟨h.low.setCell hN _, h.blk.far hne x, fun i hi => by obtain ⟨u, h1, h2⟩ := h.hdr i hi; exact ⟨u, h1, h2.setV hb⟩⟩
theorem WInv.setH {w2 w : World} {gl n0 g j : Nat} {csL cs : Array Value} (h : WInv w2 gl csL n0 w) (hb : Blk w g tR cs) (hN : w2.heap.size ≤ g) : WInv w2 gl csL n0 (w.setCell ⟨g, j, none⟩ (.slice none 0 0)) := by
  have hne : gl ≠ g := fun e => by subst e; exact absurd (blk_types h.blk hb) (by decide)
  exact ⟨h.low.setCell hN _, h.blk.far hne _, fun i hi => by obtain ⟨u, h1, h2⟩ := h.hdr i hi; exact ⟨u, h1, h2.setH hb⟩⟩
theorem WInv.at_ {w2 w : World} {gl n0 i n c : Nat} {A : Option Addr} {csL : Array Value} (h : WInv w2 gl csL n0 w) (hi : i < n0) (hu : csL[i]? = some (.slice A n c)) : n ≤ 1000000 ∧ (0 < n → ∃ g o cs, A = some ⟨g, o, none⟩ ∧ w2.heap.size ≤ g ∧ Blk w g tR cs ∧ ∀ m, m < n → ∃ r, cs[o + m]? = some r ∧ RowOk w w2.heap.size r) := by
  obtain ⟨u, h1, A', n', c', e, h2, h3⟩ := h.hdr i hi
  rw [hu] at h1
  have h4 := (Option.some.inj h1).trans e
  injection h4 with e1 e2 e3
  subst e1 e2 e3
  exact ⟨h2, h3⟩
end Go.Proofs.YtapnnheggjahlaaGreatDoor
