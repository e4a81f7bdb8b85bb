/-
  MATHEMATICS of kinds: what the reference's Combined and Kind return.
-/
import Derived.Test.YtcbcncaoabablaaGreatDoorGA16
namespace Go.Proofs.YtcbcncaoabablaaGreatDoor
open Go.RowKit

/-- the kind and whether there is one, as Combined returns them (for an operation other than a case) -/
def combC (op kind litk : Int) (l : List Co) : Co × Bool :=
  if op = 3 then ((kind, litk == 0), true)
  else if op = 4 ∨ op = 5 ∨ op = 6 ∨ op = 9 then ((1, anyN l), allK l 1)
  else if op = 7 ∨ op = 8 then ((1, true), allK l 1)
  else if op = 10 then ((3, anyN l), allK l 3)
  else if op = 11 then ((1, anyN l), allK l 3)
  else if 12 ≤ op ∧ op ≤ 17 then ((2, anyN l), allK l (fstK l))
  else if op = 18 then ((2, false), allK l (fstK l))
  else if op = 19 ∨ op = 20 ∨ op = 21 then ((2, anyN l), allK l 2)
  else if op = 22 then ((2, false), true)
  else if op = 23 then ((2, false), allK l 2)
  else if op = 24 then (if allK (conds l) 2 && allK (vals l) (fstK (vals l)) then ((fstK (vals l), anyN (vals l)), true) else ((0, false), false))
  else ((fstK l, l.all Prod.snd), allK l (fstK l))
theorem combC_E (op kind litk : Int) (l : List Co) : combE op kind litk l = if (combC op kind litk l).2 = true then some (combC op kind litk l).1 else none := by
  unfold combE combC
  by_cases c0 : op = 3
  · simp only [if_pos c0]; rfl
  simp only [if_neg c0]
  by_cases c1 : op = 4 ∨ op = 5 ∨ op = 6 ∨ op = 9
  · simp only [if_pos c1]
  simp only [if_neg c1]
  by_cases c2 : op = 7 ∨ op = 8
  · simp only [if_pos c2]
  simp only [if_neg c2]
  by_cases c3 : op = 10
  · simp only [if_pos c3]
  simp only [if_neg c3]
  by_cases c4 : op = 11
  · simp only [if_pos c4]
  simp only [if_neg c4]
  by_cases c5 : 12 ≤ op ∧ op ≤ 17
  · simp only [if_pos c5]
  simp only [if_neg c5]
  by_cases c6 : op = 18
  · simp only [if_pos c6]
  simp only [if_neg c6]
  by_cases c7 : op = 19 ∨ op = 20 ∨ op = 21
  · simp only [if_pos c7]
  simp only [if_neg c7]
  by_cases c8 : op = 22
  · simp only [if_pos c8]; rfl
  simp only [if_neg c8]
  by_cases c9 : op = 23
  · simp only [if_pos c9]
  simp only [if_neg c9]
  by_cases c10 : op = 24
  · simp only [if_pos c10]
    split <;> rfl
  simp only [if_neg c10]
/-- the conditions of a case are Bool, its values of one kind, up to i -/
structure CaseInv (l : List Co) (K : Int) (last : Bool) (i : Nat) (n : Bool) : Prop where
  even : ∀ j, j < i → j % 2 = 0 → ∀ c, l[j]? = some c → c.1 = 2
  odd : ∀ j, j < i → j % 2 = 1 → ∀ c, l[j]? = some c → c.1 = K
  null : n = true ↔ last = true ∨ ∃ j c, j < i ∧ j % 2 = 1 ∧ l[j]? = some c ∧ c.2 = true
theorem mem_conds {c : Co} : ∀ l : List Co, c ∈ conds l ↔ ∃ j, j % 2 = 0 ∧ j + 1 < l.length ∧ l[j]? = some c
  | [] => by simp [conds]
  | [a] => by simp [conds]
  | a :: b :: l => by
    have ih := mem_conds (c := c) l
    rw [conds, List.mem_cons, ih]
    constructor
    · rintro (rfl | ⟨j, h1, h2, h3⟩)
      · exact ⟨0, rfl, by simp, rfl⟩
      · exact ⟨j + 2, by omega, by simp; omega, by simpa using h3⟩
    · rintro ⟨j, h1, h2, h3⟩
      match j, h1, h2, h3 with
      | 0, _, _, h3 => simp at h3; exact .inl h3.symm
      | 1, h1, _, _ => omega
      | j + 2, h1, h2, h3 => exact .inr ⟨j, by omega, by simp at h2; omega, by simpa using h3⟩
theorem mem_vals {c : Co} : ∀ l : List Co, l.length % 2 = 1 → (c ∈ vals l ↔ (∃ j, j % 2 = 1 ∧ j < l.length ∧ l[j]? = some c) ∨ l[l.length - 1]? = some c)
  | [], h => by simp at h
  | [a], _ => by
    simp [vals]
    constructor
    · rintro rfl; exact .inr rfl
    · rintro (⟨j, h1, h2, h3⟩ | h)
      · omega
      · exact h.symm
  | a :: b :: l, h => by
    have hl : l.length % 2 = 1 := by simp at h; omega
    have ih := mem_vals (c := c) l hl
    rw [vals, List.mem_cons, ih]
    have e : (a :: b :: l)[(a :: b :: l).length - 1]? = l[l.length - 1]? := by
      have : (a :: b :: l).length - 1 = (l.length - 1) + 2 := by simp; omega
      rw [this]; rfl
    rw [e]
    constructor
    · rintro (rfl | ⟨j, h1, h2, h3⟩ | h)
      · exact .inl ⟨1, rfl, by simp, rfl⟩
      · exact .inl ⟨j + 2, by omega, by simp; omega, by simpa using h3⟩
      · exact .inr h
    · rintro (⟨j, h1, h2, h3⟩ | h)
      · match j, h1, h2, h3 with
        | 0, h1, _, _ => omega
        | 1, _, _, h3 => simp at h3; exact .inl h3.symm
        | j + 2, h1, h2, h3 => exact .inr (.inl ⟨j, by omega, by simp at h2; omega, by simpa using h3⟩)
      · exact .inr (.inr h)
theorem vals_ne {l : List Co} (h : l.length % 2 = 1) : vals l ≠ [] := by
  cases hl : l[l.length - 1]? with
  | none => rw [List.getElem?_eq_none_iff] at hl; omega
  | some c =>
    intro e
    have := (mem_vals (c := c) l h).2 (.inr hl)
    rw [e] at this
    cases this
theorem CaseInv.done {l : List Co} {c : Co} {n : Bool} (h : CaseInv l c.1 c.2 (l.length - 1) n) (ho : l.length % 2 = 1) (hc : l[l.length - 1]? = some c) (k litk : Int) : combC 24 k litk l = ((c.1, n), true) := by
  have hlen : 0 < l.length := by omega
  have h1 : allK (conds l) 2 = true := by
    unfold allK
    rw [List.all_eq_true]
    intro x hx
    obtain ⟨j, h1, h2, h3⟩ := (mem_conds l).1 hx
    exact beq_iff_eq.2 (h.even j (by omega) h1 x h3)
  have hv : ∀ x ∈ vals l, x.1 = c.1 := by
    intro x hx
    rcases (mem_vals l ho).1 hx with ⟨j, h1, h2, h3⟩ | h3
    · exact h.odd j (by omega) h1 x h3
    · rw [hc] at h3; injection h3 with h3; rw [h3]
  have hf : fstK (vals l) = c.1 := by
    unfold fstK
    cases hvl : vals l with
    | nil => exact absurd hvl (vals_ne ho)
    | cons x r => exact hv x (by rw [hvl]; exact List.mem_cons_self ..)
  have h2 : allK (vals l) (fstK (vals l)) = true := by
    unfold allK
    rw [List.all_eq_true]
    intro x hx
    rw [hf]
    exact beq_iff_eq.2 (hv x hx)
  have h3 : anyN (vals l) = n := by
    unfold anyN
    rw [Bool.eq_iff_iff, List.any_eq_true, h.null]
    constructor
    · rintro ⟨x, hx, hx2⟩
      rcases (mem_vals l ho).1 hx with ⟨j, h1, h2, h3⟩ | h3
      · exact .inr ⟨j, x, by omega, h1, h3, hx2⟩
      · rw [hc] at h3; injection h3 with h3; subst h3; exact .inl hx2
    · rintro (hx | ⟨j, x, h1, h2, h3, h4⟩)
      · exact ⟨c, (mem_vals l ho).2 (.inr hc), hx⟩
      · exact ⟨x, (mem_vals l ho).2 (.inl ⟨j, h2, by omega, h3⟩), h4⟩
  rw [hf] at h2
  unfold combC
  simp [h1, h2, h3, hf]
theorem case_even {l : List Co} {i : Nat} {x : Co} (hi : i + 1 < l.length) (h2 : i % 2 = 0) (hx : l[i]? = some x) (hne : x.1 ≠ 2) (k litk : Int) : combC 24 k litk l = ((0, false), false) := by
  have h1 : allK (conds l) 2 = false := by
    rw [← Bool.not_eq_true]
    unfold allK
    rw [List.all_eq_true]
    intro h
    exact hne (beq_iff_eq.1 (h x ((mem_conds l).2 ⟨i, h2, hi, hx⟩)))
  unfold combC
  simp [h1]
theorem case_odd {l : List Co} {i : Nat} {x c : Co} (hi : i < l.length) (h2 : i % 2 = 1) (ho : l.length % 2 = 1) (hx : l[i]? = some x) (hc : l[l.length - 1]? = some c) (hne : x.1 ≠ c.1) (k litk : Int) : combC 24 k litk l = ((0, false), false) := by
  have h1 : allK (vals l) (fstK (vals l)) = false := by
    rw [← Bool.not_eq_true]
    unfold allK
    rw [List.all_eq_true]
    intro h
    have a := beq_iff_eq.1 (h x ((mem_vals l ho).2 (.inl ⟨i, h2, hi, hx⟩)))
    have b := beq_iff_eq.1 (h c ((mem_vals l ho).2 (.inr hc)))
    exact hne (a.trans b.symm)
  unfold combC
  simp [h1]
theorem CaseInv.start (l : List Co) (K : Int) (n : Bool) : CaseInv l K n 0 n := ⟨fun _ h => absurd h (Nat.not_lt_zero _), fun _ h => absurd h (Nat.not_lt_zero _), ⟨.inl, fun h => h.elim id fun ⟨_, _, hj, _⟩ => absurd hj (Nat.not_lt_zero _)⟩⟩
theorem CaseInv.even_step {l : List Co} {K : Int} {last n : Bool} {i : Nat} {x : Co} (h : CaseInv l K last i n) (h2 : i % 2 = 0) (hx : l[i]? = some x) (hk : x.1 = 2) : CaseInv l K last (i + 1) n := by
  refine ⟨fun j hj j2 c hc => ?_, fun j hj j2 c hc => ?_, h.null.trans (or_congr Iff.rfl ⟨fun ⟨j, c, h1, h3⟩ => ⟨j, c, by omega, h3⟩, fun ⟨j, c, h1, h3⟩ => ⟨j, c, by have := h3.1; omega, h3⟩⟩)⟩
  · by_cases e : j = i
    · subst e; rw [hx] at hc; injection hc with hc; rw [← hc]; exact hk
    · exact h.even j (by omega) j2 c hc
  · exact h.odd j (by omega) j2 c hc
theorem CaseInv.odd_step {l : List Co} {K : Int} {last n : Bool} {i : Nat} {x : Co} (h : CaseInv l K last i n) (h2 : i % 2 = 1) (hx : l[i]? = some x) (hk : x.1 = K) : CaseInv l K last (i + 1) (n || x.2) := by
  refine ⟨fun j hj j2 c hc => h.even j (by omega) j2 c hc, fun j hj j2 c hc => ?_, ?_⟩
  · by_cases e : j = i
    · subst e; rw [hx] at hc; injection hc with hc; rw [← hc]; exact hk
    · exact h.odd j (by omega) j2 c hc
  · rw [Bool.or_eq_true, h.null]
    constructor
    · rintro ((h1 | ⟨j, c, h1, h3⟩) | h1)
      · exact .inl h1
      · exact .inr ⟨j, c, by omega, h3⟩
      · exact .inr ⟨i, x, by omega, h2, hx, h1⟩
    · rintro (h1 | ⟨j, c, h1, h3, h4, h5⟩)
      · exact .inl (.inl h1)
      · by_cases e : j = i
        · subst e; rw [hx] at h4; injection h4 with h4; subst h4; exact .inr h5
        · exact .inl (.inr ⟨j, c, by omega, h3, h4, h5⟩)
/-- what the reference's Kind returns -/
def kindC (cols : List Co) (e : E) : Co × Bool :=
  if e.op = 2 then ((0, false), false) else if e.op = 1 then (if e.n < 0 then ((0, false), false) else match cols[e.n.toNat]? with
    | none => ((0, false), false)
    | some c => (c, true)) else
  match kindL cols e.args with
  | none => ((0, false), false)
  | some l => combC e.op e.kind e.lit.k l
theorem kindC_E (cols : List Co) (e : E) : kindE cols e = if (kindC cols e).2 = true then some (kindC cols e).1 else none := by
  rw [kindE_of]
  unfold kindC
  split
  · rfl
  · split
    · split
      · rfl
      · cases cols[e.n.toNat]? <;> rfl
    · cases kindL cols e.args with
      | none => rfl
      | some l => exact combC_E _ _ _ _
end Go.Proofs.YtcbcncaoabablaaGreatDoor
