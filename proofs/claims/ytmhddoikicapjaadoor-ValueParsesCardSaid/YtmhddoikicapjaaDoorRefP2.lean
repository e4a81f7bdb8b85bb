/-
  CONTRACT of the reference: Parse.
-/
import Derived.Test.YtmhddoikicapjaaDoorRefP
namespace Go.Proofs.YtmhddoikicapjaaDoor
open Go.RowKit

/-- what strings of values look like -/
theorem parses_cases {s : ByteArray} (h : parses s = true) : s = sNull ∨ s = sFalse ∨ s = sTrue ∨ (∃ n, I64 n ∧ (⟨(Lib.itoa n).toArray⟩ : ByteArray) = s) ∨ (∃ l : List UInt8, okText l = true ∧ s.data.toList = 39 :: (quote l ++ [39])) := by
  obtain ⟨h1, h2⟩ := (parses_iff s).1 h
  have hi := readV_i64 s
  rcases hx : readV s with ⟨k, n, q⟩
  rw [hx] at h1 h2 hi
  rcases ok_cases h1 with ⟨e1, e2, e3⟩ | ⟨e1, e2⟩ | ⟨e1, e2, e3⟩ | ⟨e1, e2, e3⟩ | ⟨e1, e2, ht⟩
  · subst e1 e2 e3; exact .inl h2.symm
  · subst e1 e2; exact .inr (.inr (.inr (.inl ⟨n, hi, h2⟩)))
  · subst e1 e2 e3; exact .inr (.inl h2.symm)
  · subst e1 e2 e3; exact .inr (.inr (.inl h2.symm))
  · subst e1 e2
    rw [strB_text] at h2
    exact .inr (.inr (.inr (.inr ⟨q.data.toList, ht, by rw [← h2]⟩)))
theorem parses_null : parses sNull = true ∧ readV sNull = ⟨0, 0, ⟨#[]⟩⟩ :=
  ⟨parses_strB 0 0 ⟨#[]⟩ (by decide) ⟨by decide, by decide⟩, readV_strB 0 0 ⟨#[]⟩ (by decide) ⟨by decide, by decide⟩⟩
theorem parses_false : parses sFalse = true ∧ readV sFalse = ⟨2, 0, ⟨#[]⟩⟩ :=
  ⟨parses_strB 2 0 ⟨#[]⟩ (by decide) ⟨by decide, by decide⟩, readV_strB 2 0 ⟨#[]⟩ (by decide) ⟨by decide, by decide⟩⟩
theorem parses_true : parses sTrue = true ∧ readV sTrue = ⟨2, 1, ⟨#[]⟩⟩ :=
  ⟨parses_strB 2 1 ⟨#[]⟩ (by decide) ⟨by decide, by decide⟩, readV_strB 2 1 ⟨#[]⟩ (by decide) ⟨by decide, by decide⟩⟩
theorem parses_num (n : Int) (h : I64 n) : parses ⟨(Lib.itoa n).toArray⟩ = true ∧ readV ⟨(Lib.itoa n).toArray⟩ = ⟨1, n, ⟨#[]⟩⟩ :=
  ⟨parses_strB 1 n ⟨#[]⟩ rfl h, readV_strB 1 n ⟨#[]⟩ rfl h⟩
theorem itoa_no39 (n : Int) (r : List UInt8) : Lib.itoa n ≠ 39 :: r := fun e => by
  obtain ⟨c, t, hc, hh⟩ := itoa_head n
  rw [hc] at e
  injection e with e1 _
  subst e1
  revert hh; decide
/-- what the reference has put together, if the string is one of a text -/
def Inv (s : ByteArray) (q : List UInt8) (a : Nat) : Prop := ∀ l : List UInt8, s.data.toList = 39 :: (quote l ++ [39]) → l.length ≤ 200 → ∃ r, l = q ++ r ∧ a = 1 + (quote q).length
theorem Inv.start (s : ByteArray) : Inv s [] 1 := fun l _ _ => ⟨l, rfl, rfl⟩
theorem Inv.step {s : ByteArray} {q : List UInt8} {a : Nat} (h : Inv s q a) (ha : a < s.size) (hlt : a + 1 < s.size) : Inv s (q ++ [s[a]]) (if s[a] = 39 then a + 2 else a + 1) := fun l hl h200 => by
  obtain ⟨r, hr, hq⟩ := h l hl h200
  have hsz : s.data.toList.length = s.size := Array.length_toList
  have hg : s.data.toList[a]? = some s[a] := List.getElem?_eq_getElem (by omega)
  generalize s[a] = x at hg ⊢
  cases r with
  | nil =>
    rw [List.append_nil] at hr
    subst hr
    rw [hl] at hsz
    simp at hsz
    omega
  | cons c r =>
    have e1 : s.data.toList = (39 :: quote q) ++ (quote (c :: r) ++ [39]) := by
      rw [hl, hr, quote_append]; simp
    have e2 : (39 :: quote q).length = a := by simp; omega
    rw [e1, List.getElem?_append_right (by omega), e2, Nat.sub_self, quote_cons] at hg
    have e3 : x = c := by
      by_cases h39 : c = 39
      · rw [if_pos h39] at hg
        simp at hg
        rw [h39, hg]
      · rw [if_neg h39] at hg
        simp at hg
        exact hg.symm
    refine ⟨r, by rw [e3, hr]; simp, ?_⟩
    have e4 : quote [] = [] := rfl
    rw [e3, quote_append, quote_cons, e4]
    split
    · simp; omega
    · simp; omega
theorem Inv.done {s : ByteArray} {q : List UInt8} {a : Nat} (h : Inv s q a) (hend : s.size ≤ a + 1 ∨ 200 < q.length) {l : List UInt8} (hl : s.data.toList = 39 :: (quote l ++ [39])) (h200 : l.length ≤ 200) : l = q := by
  obtain ⟨r, hr, hq⟩ := h l hl h200
  have hsz : s.data.toList.length = s.size := Array.length_toList
  cases r with
  | nil => rw [hr, List.append_nil]
  | cons c r =>
    rw [hl, hr, quote_append, quote_cons] at hsz
    have hl2 : l.length = q.length + (r.length + 1) := by rw [hr]; simp
    rcases hend with h1 | h1
    · exfalso
      revert hsz
      split <;> simp <;> omega
    · omega

/-- the answer of the reference is the program's -/
def Ans (s : ByteArray) (x : V) (b : Bool) : Prop := (b = true → parses s = true ∧ readV s = x) ∧ (b = false → parses s = false)
theorem Ans.bytes {s : ByteArray} {q : ByteArray} (ht : okText q.data.toList = true) (e : (⟨(39 :: (quote q.data.toList ++ [39])).toArray⟩ : ByteArray) = s) : parses s = true ∧ readV s = ⟨3, 0, q⟩ := by
  rw [← strB_text] at e
  subst e
  exact ⟨parses_strB 3 0 q ht ⟨by decide, by decide⟩, readV_strB 3 0 q ht ⟨by decide, by decide⟩⟩
theorem no_text {s : ByteArray} {q : ByteArray} (h39 : s.data.toList.head? = some 39) (hd : ∀ l : List UInt8, s.data.toList = 39 :: (quote l ++ [39]) → l.length ≤ 200 → l = q.data.toList)
    (hb : okText q.data.toList = false ∨ (⟨(39 :: (quote q.data.toList ++ [39])).toArray⟩ : ByteArray) ≠ s) : parses s = false := by
  cases hp : parses s with
  | false => rfl
  | true =>
    exfalso
    rcases parses_cases hp with e | e | e | ⟨n, _, e⟩ | ⟨l, hl, e⟩
    · subst e; revert h39; decide
    · subst e; revert h39; decide
    · subst e; revert h39; decide
    · subst e
      obtain ⟨c, r, hc, hh⟩ := itoa_head n
      have h2 : (Lib.itoa n).head? = some 39 := h39
      rw [hc] at h2
      simp at h2
      subst h2
      revert hh; decide
    · have h200 : l.length ≤ 200 := by unfold okText at hl; simp at hl; exact hl.1
      have e2 := hd l e h200
      subst e2
      rcases hb with hb | hb
      · rw [hl] at hb; cases hb
      · exact hb (ba_list e.symm)
theorem no_num {s : ByteArray} (hn : NoNum s) (h0 : s ≠ sNull) (h1 : s ≠ sFalse) (h2 : s ≠ sTrue) (h39 : s.data.toList.head? ≠ some 39) : parses s = false := by
  cases hp : parses s with
  | false => rfl
  | true =>
    exfalso
    rcases parses_cases hp with e | e | e | ⟨n, hi, e⟩ | ⟨l, hl, e⟩
    · exact h0 e
    · exact h1 e
    · exact h2 e
    · exact hn n hi e
    · exact h39 (by rw [e]; rfl)
theorem head_at (s : ByteArray) (h : 0 < s.size) : s.data.toList.head? = some (s[0]'h) := by
  have hsz : s.data.toList.length = s.size := Array.length_toList
  rw [List.head?_eq_getElem?]
  exact List.getElem?_eq_getElem (by omega)
end Go.Proofs.YtmhddoikicapjaaDoor
