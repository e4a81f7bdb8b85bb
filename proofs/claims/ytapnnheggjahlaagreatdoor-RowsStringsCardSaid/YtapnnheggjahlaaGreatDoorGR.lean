/-
  Prs: MATHEMATICS of the strings of rows, read back: where a value ends, what a line says, what a string says.
  PEnd: CONTRACT: rows.end, where a value ends.
  PRd: CONTRACT: rows.read, the row that a line says.
  PPs: CONTRACT: rows.Parse, the rows that a string says.
-/
import Derived.Test.YtapnnheggjahlaaGreatDoorGK
import Derived.Test.YtapnnheggjahlaaGreatDoorGL
import Derived.Test.YtapnnheggjahlaaGreatDoorGS
import Derived.Test.YtapnnheggjahlaaGreatDoorRfB
import Derived.Test.YtapnnheggjahlaaGreatDoorAwk
namespace Go.Proofs.YtapnnheggjahlaaGreatDoor
open Go.RowKit

/-- the value whose string it is -/
def pV (l : List UInt8) : Option V := if parses ⟨l.toArray⟩ = true then some (readV ⟨l.toArray⟩) else none
theorem parses_fine {s : ByteArray} (h : parses s = true) : (readV s).fine ∧ strV (readV s) = s.data.toList := by
  obtain ⟨h1, h2⟩ := (parses_iff s).1 h
  refine ⟨⟨h1, readV_i64 s⟩, ?_⟩
  have := congrArg (fun b : ByteArray => b.data.toList) h2
  simpa using this
theorem pV_some {l : List UInt8} {v : V} : pV l = some v ↔ v.fine ∧ strV v = l := by
  unfold pV
  constructor
  · intro h
    split at h
    · rename_i hp
      injection h with h
      subst h
      have := parses_fine hp
      exact ⟨this.1, by simpa using this.2⟩
    · cases h
  · rintro ⟨h, rfl⟩
    have h1 : parses ⟨(strV v).toArray⟩ = true := parses_strB v.k v.n v.s h.1 h.2
    rw [if_pos h1, strV_back h]
theorem pV_none {l : List UInt8} (h : pV l = none) {v : V} (hv : v.fine) : strV v ≠ l := fun e => by
  rw [pV_some.2 ⟨hv, e⟩] at h; cases h
theorem pV_nil : pV [] = none := by
  cases h : pV [] with
  | none => rfl
  | some v =>
    obtain ⟨h1, h2⟩ := pV_some.1 h
    obtain ⟨c, r, e, _⟩ := strV_ne h1
    rw [e] at h2; cases h2
/-- where the value ends, inside of a text or not -/
def endG : Bool → List UInt8 → Nat
  | _, [] => 0
  | i, c :: l => if c = 44 ∧ i = false then 0 else endG (if c = 39 then !i else i) l + 1
theorem endG_le : ∀ (i : Bool) (l : List UInt8), endG i l ≤ l.length
  | _, [] => Nat.le_refl _
  | i, c :: l => by
    unfold endG
    split
    · exact Nat.zero_le _
    · have := endG_le (if c = 39 then !i else i) l
      simp only [List.length_cons]; omega
theorem endG_at : ∀ (i : Bool) (l : List UInt8), endG i l < l.length → l[endG i l]? = some 44
  | _, [], h => by simp [endG] at h
  | i, c :: l, h => by
    unfold endG at h ⊢
    split
    · rename_i hc; simp [hc.1]
    · rename_i hc
      rw [if_neg hc] at h
      rw [List.getElem?_cons_succ]
      exact endG_at _ l (by simpa using h)
theorem endG_word (r : List UInt8) (hr : r = [] ∨ ∃ t, r = 44 :: t) : ∀ l : List UInt8, (∀ x ∈ l, inW x) → endG false (l ++ r) = l.length
  | [], _ => by
    rcases hr with rfl | ⟨t, rfl⟩
    · rfl
    · simp [endG]
  | c :: l, h => by
    have hc := h c (List.mem_cons_self ..)
    rw [List.cons_append, endG, if_neg (fun e => hc.1 e.1), if_neg hc.2.2, endG_word r hr l fun x hx => h x (List.mem_cons_of_mem _ hx)]
    rfl
theorem endG_text (r : List UInt8) (hr : r = [] ∨ ∃ t, r = 44 :: t) : ∀ l : List UInt8, endG true (quote l ++ 39 :: r) = (quote l).length + 1
  | [] => by
    show endG true (39 :: r) = _
    unfold endG
    rw [if_neg (by simp), if_pos rfl]
    rcases hr with rfl | ⟨t, rfl⟩ <;> simp [endG, quote]
  | c :: l => by
    have ih := endG_text r hr l
    rw [quote_cons]
    by_cases e : c = 39
    · subst e
      rw [if_pos rfl]
      simp only [List.cons_append, List.nil_append, endG, List.length_cons]
      simp [ih]
    · rw [if_neg e]
      simp only [List.cons_append, List.nil_append, endG, List.length_cons]
      simp [ih, e]
abbrev endF (l : List UInt8) : Nat := endG false l
theorem endF_val {v : V} (h : v.fine) (r : List UInt8) (hr : r = [] ∨ ∃ t, r = 44 :: t) : endF (strV v ++ r) = (strV v).length := by
  rcases strV_word h with ⟨_, a⟩ | ⟨c1, r1, _, ha⟩
  · rw [a]
    have := endG_text r hr v.s.data.toList
    show endG false (39 :: (quote v.s.data.toList ++ [39]) ++ r) = _
    simp only [List.cons_append, List.append_assoc, List.nil_append, endG]
    simp [this]
  · exact endG_word r hr _ ha
/-- the values of a row, without its brackets -/
def body : List V → List UInt8
  | [] => []
  | v :: r => strV v ++ (r.flatMap fun v => 44 :: 32 :: strV v)
theorem rowS_body (r : List V) : rowS r = 40 :: (body r ++ [41]) := by
  match r with
  | [] => rfl
  | v :: r => rw [rowS_cons]; simp [body, tlS]
theorem body_two (v u : V) (r : List V) : body (v :: u :: r) = strV v ++ 44 :: 32 :: body (u :: r) := by simp [body]
/-- what a line's inside says -/
def Says (s : List UInt8) (r : List V) : Prop := r ≠ [] ∧ (∀ v ∈ r, v.fine) ∧ body r = s
theorem says_end {s : List UInt8} {v : V} {r : List V} (h : Says s (v :: r)) : endF s = (strV v).length ∧ s.take (endF s) = strV v ∧ (r = [] → s = strV v) ∧ (∀ u q, r = u :: q → s.drop (endF s) = 44 :: 32 :: body (u :: q)) := by
  obtain ⟨_, h2, h3⟩ := h
  have hv := h2 v (List.mem_cons_self ..)
  match r with
  | [] =>
    have e : s = strV v ++ [] := by rw [← h3]; simp [body]
    have e1 := endF_val hv [] (.inl rfl)
    rw [← e] at e1
    rw [List.append_nil] at e
    refine ⟨e1, ?_, fun _ => e, fun u q h => by cases h⟩
    rw [e1, e, List.take_length]
  | u :: q =>
    rw [body_two] at h3
    have e1 := endF_val hv (44 :: 32 :: body (u :: q)) (.inr ⟨_, rfl⟩)
    rw [h3] at e1
    refine ⟨e1, ?_, (fun h => by cases h), fun u' q' h => ?_⟩
    · rw [e1, ← h3, List.take_left]
    · cases h
      rw [e1, ← h3, List.drop_left]
theorem says_none {s : List UInt8} (h : pV (s.take (endF s)) = none) (r : List V) : ¬ Says s r := fun hs => by
  match r, hs with
  | [], hs => exact hs.1 rfl
  | v :: r, hs =>
    have e := says_end hs
    exact pV_none h (hs.2.1 v (List.mem_cons_self ..)) e.2.1.symm
theorem says_last {s : List UInt8} {v : V} (h : pV (s.take (endF s)) = some v) (he : endF s = s.length) (r : List V) : Says s r ↔ r = [v] := by
  obtain ⟨h1, h2⟩ := pV_some.1 h
  rw [he, List.take_length] at h2
  constructor
  · intro hs
    match r, hs with
    | [], hs => exact absurd rfl hs.1
    | u :: r, hs =>
      have e := says_end hs
      rw [he, List.take_length] at e
      have hu : v = u := strV_inj h1 (hs.2.1 u (List.mem_cons_self ..)) (h2.trans e.2.1)
      match r, e with
      | [], e => rw [hu]
      | x :: q, e =>
        have := e.2.2.2 x q rfl
        rw [List.drop_length] at this
        cases this
  · rintro rfl
    exact ⟨by simp, by simpa using h1, by simpa [body] using h2⟩
theorem trim_sep (t : List UInt8) : Lib.trimPrefix (44 :: 32 :: t) [44, 32] = t := by simp [Lib.trimPrefix, Lib.hasPrefix, List.isPrefixOf]
theorem trim_other {t : List UInt8} (h : ∀ q, t ≠ 32 :: q) : Lib.trimPrefix (44 :: t) [44, 32] = 44 :: t := by
  match t with
  | [] => rfl
  | c :: q =>
    have hc : c ≠ 32 := fun e => h q (by rw [e])
    unfold Lib.trimPrefix Lib.hasPrefix
    rw [if_neg]
    simp [List.isPrefixOf]
    exact fun e => hc e.symm
theorem says_comma (t : List UInt8) (r : List V) : ¬ Says (44 :: t) r := says_none (by simp [endG, pV_nil]) r
theorem says_more {s : List UInt8} {v : V} (h : pV (s.take (endF s)) = some v) (he : endF s < s.length) (r : List V) : Says s r ↔ ∃ r2, r = v :: r2 ∧ Says (Lib.trimPrefix (s.drop (endF s)) [44, 32]) r2 := by
  obtain ⟨h1, h2⟩ := pV_some.1 h
  have ha := endG_at false s he
  have hd : s.drop (endF s) = 44 :: s.drop (endF s + 1) := by
    rw [List.drop_eq_getElem_cons he]
    rw [List.getElem?_eq_getElem he] at ha
    injection ha with ha
    rw [ha]
  have hsplit : s = strV v ++ s.drop (endF s) := by rw [h2, List.take_append_drop]
  constructor
  · intro hs
    match r, hs with
    | [], hs => exact absurd rfl hs.1
    | u :: r, hs =>
      have e := says_end hs
      have hu : v = u := strV_inj h1 (hs.2.1 u (List.mem_cons_self ..)) (h2.trans e.2.1)
      subst hu
      match r, e, hs with
      | [], e, hs =>
        have := e.2.2.1 rfl
        rw [e.1, this] at he
        exact absurd he (Nat.lt_irrefl _)
      | x :: q, e, hs =>
        have e4 := e.2.2.2 x q rfl
        refine ⟨x :: q, rfl, by simp, fun y hy => hs.2.1 y (List.mem_cons_of_mem _ hy), ?_⟩
        rw [e4, trim_sep]
  · rintro ⟨r2, rfl, hs⟩
    by_cases hb : ∃ q, s.drop (endF s + 1) = 32 :: q
    · obtain ⟨q, hq⟩ := hb
      rw [hd, hq, trim_sep] at hs
      match r2, hs with
      | [], hs => exact absurd rfl hs.1
      | u :: r2, hs =>
        refine ⟨by simp, ?_, ?_⟩
        · intro y hy
          rcases List.mem_cons.1 hy with rfl | hy
          · exact h1
          · exact hs.2.1 y hy
        · rw [body_two, hs.2.2, ← hq, ← hd]
          exact hsplit.symm
    · rw [hd, trim_other (fun q e => hb ⟨q, e⟩)] at hs
      exact absurd hs (says_comma _ _)
theorem trim_less {s : List UInt8} {v : V} (h : pV (s.take (endF s)) = some v) : (Lib.trimPrefix (s.drop (endF s)) [44, 32]).length < s.length := by
  have h0 : 0 < endF s := by
    rcases Nat.eq_zero_or_pos (endF s) with e | e
    · rw [e, List.take_zero, pV_nil] at h; cases h
    · exact e
  have h1 := trimPrefix_len (s.drop (endF s)) [44, 32]
  have h2 := endG_le false s
  rw [List.length_drop] at h1
  have h3 : endF s ≤ s.length := h2
  omega
/-- the row that a line says -/
def LineIs (l : List UInt8) (r : List V) : Prop := (∀ v ∈ r, v.fine) ∧ rowS r = l
theorem line_says {s : List UInt8} (hs : s ≠ []) (r : List V) : LineIs (40 :: (s ++ [41])) r ↔ Says s r := by
  unfold LineIs Says
  rw [rowS_body]
  constructor
  · rintro ⟨h1, h2⟩
    have h2 : body r = s := by simpa using h2
    refine ⟨fun e => ?_, h1, h2⟩
    subst e
    exact hs h2.symm
  · rintro ⟨_, h1, h2⟩
    exact ⟨h1, by rw [h2]⟩
theorem line_none (r : List V) : LineIs [40, 41] r ↔ r = [] := by
  constructor
  · rintro ⟨h1, h2⟩
    exact rowS_inj h1 (by simp) (h2.trans rowS_nil.symm)
  · rintro rfl
    exact ⟨by simp, rfl⟩
theorem line_form {l : List UInt8} {r : List V} (h : LineIs l r) : ∃ t, l = 40 :: (t ++ [41]) := ⟨body r, by rw [← h.2, rowS_body]⟩
theorem line_one {l : List UInt8} {r q : List V} (h : LineIs l r) (h' : LineIs l q) : r = q := rowS_inj h.1 h'.1 (h.2.trans h'.2.symm)
/-- no line ends inside of a row's string -/
theorem strV_no10 {v : V} (h : v.fine) : (10 : UInt8) ∉ strV v := by
  intro hm
  unfold strV strB at hm
  obtain ⟨h1, h2⟩ := h
  rcases ok_cases h1 with ⟨a, b, c⟩ | ⟨a, c⟩ | ⟨a, b, c⟩ | ⟨a, b, c⟩ | ⟨a, b, c⟩
  · rw [a, if_neg (by decide), if_neg (by decide), if_pos rfl] at hm; revert hm; decide
  · rw [a, if_pos rfl] at hm
    have hd : ∀ u : Nat, (10 : UInt8) ∉ Lib.decDigits u := fun u hu => absurd ((dec_dig u).2 10 hu).1 (by decide)
    unfold Lib.itoa at hm
    split at hm
    · rcases List.mem_cons.1 hm with e | e
      · exact absurd e (by decide)
      · exact hd _ e
    · exact hd _ hm
  · rw [a, b, if_neg (by decide), if_neg (by decide), if_neg (by decide), if_pos rfl] at hm; revert hm; decide
  · rw [a, b, if_neg (by decide), if_neg (by decide), if_neg (by decide), if_neg (by decide)] at hm; revert hm; decide
  · rw [a, if_neg (by decide), if_pos rfl, all_quote] at hm
    simp only [List.mem_cons, List.mem_append, List.not_mem_nil, or_false] at hm
    rcases hm with hm | hm | hm
    · revert hm; decide
    · unfold quote at hm
      obtain ⟨x, hx, hm⟩ := List.mem_flatMap.1 hm
      have hb : okBytes v.s.data.toList = true := by
        unfold okText at c
        simp only [Bool.and_eq_true] at c
        exact c.2
      have hx2 : 32 ≤ x.toNat ∧ x.toNat ≤ 126 := by
        unfold okBytes at hb
        have := (okByte_iff x).1 (List.all_eq_true.1 hb x hx)
        omega
      split at hm
      · revert hm; decide
      · simp only [List.mem_cons, List.not_mem_nil, or_false] at hm
        subst hm
        have : (10 : UInt8).toNat = 10 := rfl
        omega
    · revert hm; decide
theorem body_no10 : ∀ {r : List V}, (∀ v ∈ r, v.fine) → (10 : UInt8) ∉ body r
  | [], _ => by simp [body]
  | v :: r, h => by
    simp only [body, List.mem_append, List.mem_flatMap, List.mem_cons, not_or, not_exists, not_and]
    exact ⟨strV_no10 (h v (List.mem_cons_self ..)), fun x hx => ⟨by decide, by decide, strV_no10 (h x (List.mem_cons_of_mem _ hx))⟩⟩
theorem rowS_no10 {r : List V} (h : ∀ v ∈ r, v.fine) : (10 : UInt8) ∉ rowS r := by
  rw [rowS_body]
  simp only [List.mem_cons, List.mem_append, List.not_mem_nil, or_false, not_or]
  exact ⟨by decide, body_no10 h, by decide⟩
theorem strR_cons (r : List V) (L : List (List V)) : strR (r :: L) = rowS r ++ 10 :: strR L := by simp [strR]
/-- the rows that a string says -/
def StrIs (s : List UInt8) (L : List (List V)) : Prop := (∀ r ∈ L, ∀ v ∈ r, v.fine) ∧ strR L = s
theorem strIs_nil (L : List (List V)) : StrIs [] L ↔ L = [] := by
  constructor
  · rintro ⟨_, h⟩
    match L, h with
    | [], _ => rfl
    | r :: L, h => rw [strR_cons, rowS_body] at h; cases h
  · rintro rfl
    exact ⟨by simp, rfl⟩
theorem cut10 {a b r q : List UInt8} (ha : (10 : UInt8) ∉ a) (hb : (10 : UInt8) ∉ b) (h : a ++ 10 :: r = b ++ 10 :: q) : a = b ∧ r = q := by
  induction a generalizing b with
  | nil =>
    match b, hb, h with
    | [], _, h => simpa using h
    | y :: b, hb, h =>
      simp only [List.nil_append, List.cons_append, List.cons.injEq] at h
      exact absurd (by rw [h.1]; exact List.mem_cons_self ..) hb
  | cons x a ih =>
    match b, hb, h with
    | [], _, h =>
      simp only [List.nil_append, List.cons_append, List.cons.injEq] at h
      exact absurd (by rw [h.1]; exact List.mem_cons_self ..) ha
    | y :: b, hb, h =>
      simp only [List.cons_append, List.cons.injEq] at h
      obtain ⟨e1, e2⟩ := ih (fun hm => ha (List.mem_cons_of_mem _ hm)) (fun hm => hb (List.mem_cons_of_mem _ hm)) h.2
      exact ⟨by rw [h.1, e1], e2⟩
theorem strIs_no {s : List UInt8} (hs : s ≠ []) (h : (10 : UInt8) ∉ s) (L : List (List V)) : ¬ StrIs s L := by
  rintro ⟨_, e⟩
  match L, e with
  | [], e => exact hs e.symm
  | r :: L, e =>
    rw [strR_cons] at e
    exact h (by rw [← e]; simp)
theorem strIs_line {l t : List UInt8} (h : (10 : UInt8) ∉ l) (L : List (List V)) : StrIs (l ++ 10 :: t) L ↔ ∃ r L2, L = r :: L2 ∧ LineIs l r ∧ StrIs t L2 := by
  constructor
  · rintro ⟨h1, h2⟩
    match L, h1, h2 with
    | [], _, h2 => simp [strR] at h2
    | r :: L, h1, h2 =>
      rw [strR_cons] at h2
      have hr : ∀ v ∈ r, v.fine := h1 r (List.mem_cons_self ..)
      obtain ⟨e1, e2⟩ := cut10 (rowS_no10 hr) h h2
      exact ⟨r, L, rfl, ⟨hr, e1⟩, fun q hq => h1 q (List.mem_cons_of_mem _ hq), e2⟩
  · rintro ⟨r, L2, rfl, ⟨h1, h2⟩, h3, h4⟩
    refine ⟨fun q hq => ?_, by rw [strR_cons, h2, h4]⟩
    rcases List.mem_cons.1 hq with rfl | hq
    · exact h1
    · exact h3 q hq
theorem strIs_one {s : List UInt8} {L L2 : List (List V)} (h : StrIs s L) (h' : StrIs s L2) : L = L2 := by
  induction L generalizing s L2 with
  | nil =>
    have e : s = [] := h.2.symm
    rw [e] at h'
    exact ((strIs_nil L2).1 h').symm
  | cons r L ih =>
    have e := h.2
    rw [strR_cons] at e
    have hr : ∀ v ∈ r, v.fine := h.1 r (List.mem_cons_self ..)
    rw [← e] at h'
    obtain ⟨q, L3, rfl, h2, h3⟩ := (strIs_line (rowS_no10 hr) L2).1 h'
    rw [line_one (⟨hr, rfl⟩ : LineIs (rowS r) r) h2, ih (⟨fun q hq => h.1 q (List.mem_cons_of_mem _ hq), rfl⟩ : StrIs (strR L) L) h3]
/-- how far a text goes behind its first quote -/
def scanT : List UInt8 → Nat
  | [] => 0
  | 39 :: 39 :: l => scanT l + 2
  | c :: l => if c = 39 then 0 else scanT l + 1
def inC (c : UInt8) : Bool := c = 45 || (decide (48 ≤ c.toNat) && decide (c.toNat ≤ 57)) || (decide (97 ≤ c.toNat) && decide (c.toNat ≤ 122))
/-- how many bytes the value has with which a string begins -/
def valLen (l : List UInt8) : Nat := if l.head? = some 39 then scanT l.tail + 2 else (l.takeWhile inC).length
theorem scanT_quote (c : UInt8) (r : List UInt8) (hc : c = 44 ∨ c = 41) : ∀ l : List UInt8, scanT (quote l ++ 39 :: c :: r) = (quote l).length
  | [] => by
    have : c ≠ 39 := by rcases hc with rfl | rfl <;> decide
    show scanT (39 :: c :: r) = 0
    rw [scanT]
    · simp
    · intro l _ h
      simp at h
      exact this h.1
  | d :: l => by
    have ih := scanT_quote c r hc l
    rw [quote_cons]
    by_cases e : d = 39
    · subst e
      rw [if_pos rfl]
      show scanT (39 :: 39 :: (quote l ++ 39 :: c :: r)) = _
      rw [scanT, ih]
      simp
    · rw [if_neg e]
      show scanT (d :: (quote l ++ 39 :: c :: r)) = _
      rw [scanT, if_neg e, ih]
      · simp
      · intro l h _
        exact absurd h e
theorem word_inC {v : V} (h : v.fine) (hk : v.k ≠ 3) : ∀ x ∈ strV v, inC x = true := by
  intro x hx
  unfold strV strB at hx
  obtain ⟨h1, h2⟩ := h
  rcases ok_cases h1 with ⟨a, b, c⟩ | ⟨a, c⟩ | ⟨a, b, c⟩ | ⟨a, b, c⟩ | ⟨a, b, c⟩
  · rw [a, if_neg (by decide), if_neg (by decide), if_pos rfl] at hx; revert x; decide
  · rw [a, if_pos rfl] at hx
    have hd : ∀ u : Nat, ∀ y ∈ Lib.decDigits u, inC y = true := fun u y hy => by
      have := (dec_dig u).2 y hy
      simp [inC, this.1, this.2]
    unfold Lib.itoa at hx
    split at hx
    · rcases List.mem_cons.1 hx with e | e
      · subst e; decide
      · exact hd _ x e
    · exact hd _ x hx
  · rw [a, b, if_neg (by decide), if_neg (by decide), if_neg (by decide), if_pos rfl] at hx; revert x; decide
  · rw [a, b, if_neg (by decide), if_neg (by decide), if_neg (by decide), if_neg (by decide)] at hx; revert x; decide
  · exact absurd a hk
theorem valLen_val {v : V} (h : v.fine) (c : UInt8) (r : List UInt8) (hc : c = 44 ∨ c = 41) : valLen (strV v ++ c :: r) = (strV v).length := by
  by_cases hk : v.k = 3
  · have a : strV v = 39 :: (quote v.s.data.toList ++ [39]) := by
      rcases strV_word h with ⟨_, a⟩ | ⟨c1, r1, a, ha⟩
      · exact a
      · exfalso
        have : strV v = 39 :: (quote v.s.data.toList ++ [39]) := by
          unfold strV strB
          rw [hk, if_neg (by decide), if_pos rfl, all_quote]
        exact (ha 39 (by rw [this]; exact List.mem_cons_self ..)).2.2 rfl
    unfold valLen
    rw [a]
    simp only [List.cons_append, List.head?_cons, if_true, List.tail_cons, List.append_assoc, List.nil_append]
    rw [scanT_quote c r hc]
    simp
  · have hw := word_inC h hk
    obtain ⟨d, q, e, _⟩ := strV_ne h
    have hd : d ≠ 39 := by
      have := hw d (by rw [e]; exact List.mem_cons_self ..)
      rintro rfl
      revert this; decide
    unfold valLen
    have h1 : (strV v ++ c :: r).head? ≠ some 39 := by
      rw [e]
      simpa using hd
    rw [if_neg h1]
    have hcc : inC c = false := by rcases hc with rfl | rfl <;> decide
    have : ∀ l : List UInt8, (∀ x ∈ l, inC x = true) → (l ++ c :: r).takeWhile inC = l := fun l => by
      induction l with
      | nil => intro _; simp [hcc]
      | cons x l ih =>
        intro hl
        rw [List.cons_append, List.takeWhile_cons, if_pos (hl x (List.mem_cons_self ..)), ih fun y hy => hl y (List.mem_cons_of_mem _ hy)]
    rw [this _ hw]
/-- a string that begins with the values of a row and its closing bracket -/
def Opens (s : List UInt8) (r : List V) (q : List UInt8) : Prop := r ≠ [] ∧ (∀ v ∈ r, v.fine) ∧ s = body r ++ 41 :: q
theorem opens_end {s : List UInt8} {v : V} {r : List V} {q : List UInt8} (h : Opens s (v :: r) q) : valLen s = (strV v).length ∧ s.take (valLen s) = strV v ∧ valLen s ≤ s.length ∧ (r = [] → s.drop (valLen s) = 41 :: q) ∧ (∀ u p, r = u :: p → s.drop (valLen s) = 44 :: 32 :: (body (u :: p) ++ 41 :: q)) := by
  obtain ⟨_, h2, h3⟩ := h
  have hv := h2 v (List.mem_cons_self ..)
  match r with
  | [] =>
    have e : s = strV v ++ 41 :: q := by rw [h3]; simp [body]
    have e1 := valLen_val hv 41 q (.inr rfl)
    rw [← e] at e1
    refine ⟨e1, ?_, ?_, fun _ => ?_, fun u q h => by cases h⟩
    · rw [e1, e, List.take_left]
    · rw [e1, e]; simp
    · rw [e1, e, List.drop_left]
  | u :: p =>
    rw [body_two] at h3
    have e1 := valLen_val hv 44 (32 :: (body (u :: p) ++ 41 :: q)) (.inl rfl)
    have e : s = strV v ++ 44 :: 32 :: (body (u :: p) ++ 41 :: q) := by rw [h3]; simp
    rw [← e] at e1
    refine ⟨e1, ?_, ?_, (fun h => by cases h), fun u' q' h => ?_⟩
    · rw [e1, e, List.take_left]
    · rw [e1, e]; simp
    · cases h
      rw [e1, e, List.drop_left]
theorem opens_none {s : List UInt8} (h : s.length < valLen s ∨ pV (s.take (valLen s)) = none) (r : List V) (q : List UInt8) : ¬ Opens s r q := fun hs => by
  match r, hs with
  | [], hs => exact hs.1 rfl
  | v :: r, hs =>
    have e := opens_end hs
    rcases h with h | h
    · omega
    · exact pV_none h (hs.2.1 v (List.mem_cons_self ..)) e.2.1.symm
theorem opens_last {s t : List UInt8} {v : V} (h : pV (s.take (valLen s)) = some v) (hd : s.drop (valLen s) = 41 :: t) (r : List V) (q : List UInt8) : Opens s r q ↔ r = [v] ∧ q = t := by
  obtain ⟨h1, h2⟩ := pV_some.1 h
  have hsp : s = strV v ++ 41 :: t := by rw [h2, ← hd, List.take_append_drop]
  constructor
  · intro hs
    match r, hs with
    | [], hs => exact absurd rfl hs.1
    | u :: r, hs =>
      have e := opens_end hs
      have hu : v = u := strV_inj h1 (hs.2.1 u (List.mem_cons_self ..)) (h2.trans e.2.1)
      match r, e with
      | [], e =>
        have := e.2.2.2.1 rfl
        rw [hd] at this
        injection this with _ this
        exact ⟨by rw [hu], this.symm⟩
      | x :: p, e =>
        have := e.2.2.2.2 x p rfl
        rw [hd] at this
        injection this with this _
        exact absurd this (by decide)
  · rintro ⟨rfl, rfl⟩
    exact ⟨by simp, by simpa using h1, by simpa [body] using hsp⟩
theorem opens_more {s t : List UInt8} {v : V} (h : pV (s.take (valLen s)) = some v) (hd : s.drop (valLen s) = 44 :: 32 :: t) (r : List V) (q : List UInt8) : Opens s r q ↔ ∃ r2, r = v :: r2 ∧ Opens t r2 q := by
  obtain ⟨h1, h2⟩ := pV_some.1 h
  have hsp : s = strV v ++ 44 :: 32 :: t := by rw [h2, ← hd, List.take_append_drop]
  constructor
  · intro hs
    match r, hs with
    | [], hs => exact absurd rfl hs.1
    | u :: r, hs =>
      have e := opens_end hs
      have hu : v = u := strV_inj h1 (hs.2.1 u (List.mem_cons_self ..)) (h2.trans e.2.1)
      subst hu
      match r, e, hs with
      | [], e, hs =>
        have := e.2.2.2.1 rfl
        rw [hd] at this
        injection this with this _
        exact absurd this (by decide)
      | x :: p, e, hs =>
        have e4 := e.2.2.2.2 x p rfl
        rw [hd] at e4
        injection e4 with _ e4
        injection e4 with _ e4
        exact ⟨x :: p, rfl, by simp, fun y hy => hs.2.1 y (List.mem_cons_of_mem _ hy), e4⟩
  · rintro ⟨r2, rfl, hs⟩
    match r2, hs with
    | [], hs => exact absurd rfl hs.1
    | u :: r2, hs =>
      refine ⟨by simp, ?_, ?_⟩
      · intro y hy
        rcases List.mem_cons.1 hy with rfl | hy
        · exact h1
        · exact hs.2.1 y hy
      · rw [body_two]
        simp only [List.append_assoc, List.cons_append]
        rw [← hs.2.2]
        exact hsp
theorem opens_odd {s : List UInt8} {v : V} (_ : pV (s.take (valLen s)) = some v) (h41 : ∀ t, s.drop (valLen s) ≠ 41 :: t) (h44 : ∀ t, s.drop (valLen s) ≠ 44 :: 32 :: t) (r : List V) (q : List UInt8) : ¬ Opens s r q := fun hs => by
  match r, hs with
  | [], hs => exact hs.1 rfl
  | u :: r, hs =>
    have e := opens_end hs
    match r, e with
    | [], e => exact h41 _ (e.2.2.2.1 rfl)
    | x :: p, e => exact h44 _ (e.2.2.2.2 x p rfl)
/-- cut at the end of a line -/
theorem cut_line : ∀ s : List UInt8, ((10 : UInt8) ∉ s ∧ Lib.cut s [10] = (s, [], false)) ∨ (∃ l t, s = l ++ 10 :: t ∧ (10 : UInt8) ∉ l ∧ Lib.cut s [10] = (l, t, true))
  | [] => .inl ⟨by simp, by simp [Lib.cut, Lib.index]⟩
  | c :: s => by
    by_cases hc : c = 10
    · subst hc
      refine .inr ⟨[], s, rfl, by simp, ?_⟩
      unfold Lib.cut
      simp [Lib.index, List.isPrefixOf]
    · have hp : ([10] : List UInt8).isPrefixOf (c :: s) = false := by simp [List.isPrefixOf]; exact fun e => hc e.symm
      rcases cut_line s with ⟨h1, h2⟩ | ⟨l, t, h1, h2, h3⟩
      · refine .inl ⟨by simp only [List.mem_cons, not_or]; exact ⟨fun e => hc e.symm, h1⟩, ?_⟩
        unfold Lib.cut at h2 ⊢
        have hi : Lib.index s [10] = -1 := by
          rcases Lib.index_spec s [10] with h | ⟨i, h, _⟩
          · exact h.1
          · rw [h, if_pos (by omega)] at h2
            exact absurd (congrArg (fun x => x.2.2) h2) (by simp)
        have e1 : Lib.index (c :: s) [10] = -1 := by
          rw [Lib.index, hp, if_neg (by decide), hi]
          rfl
        rw [e1, if_neg (by decide)]
      · refine .inr ⟨c :: l, t, by rw [h1]; rfl, by simp only [List.mem_cons, not_or]; exact ⟨fun e => hc e.symm, h2⟩, ?_⟩
        unfold Lib.cut at h3 ⊢
        obtain ⟨i, hi⟩ : ∃ i : Nat, Lib.index s [10] = i := by
          rcases Lib.index_spec s [10] with h | ⟨i, h, _⟩
          · rw [h.1] at h3; simp at h3
          · exact ⟨i, h⟩
        have e1 : Lib.index (c :: s) [10] = ((i + 1 : Nat) : Int) := by
          rw [Lib.index, hp, if_neg (by decide), hi, if_neg (by simp)]
          rfl
        rw [hi, if_pos (by omega)] at h3
        simp only [Int.toNat_natCast, Prod.mk.injEq] at h3
        rw [e1, if_pos (by omega)]
        simp only [Int.toNat_natCast, Prod.mk.injEq, List.take_succ_cons, List.length_cons, List.length_nil, Nat.zero_add]
        refine ⟨by rw [h3.1], ?_, trivial⟩
        rw [show i + 1 + 1 = (i + 1) + 1 from rfl, List.drop_succ_cons]
        simpa using h3.2.1
theorem line_cases (l : List UInt8) : (∀ t, l ≠ 40 :: (t ++ [41])) ∨ ∃ t, l = 40 :: (t ++ [41]) := by
  by_cases h : ∃ t, l = 40 :: (t ++ [41])
  · exact .inr h
  · exact .inl fun t e => h ⟨t, e⟩
end Go.Proofs.YtapnnheggjahlaaGreatDoor
namespace Go.Proofs.YtapnnheggjahlaaGreatDoor
open Go.RowKit

theorem drop_cons (s : ByteArray) (k : Nat) (h : k < s.size) : s.data.toList.drop k = s[k] :: s.data.toList.drop (k + 1) := by
  rw [List.drop_eq_getElem_cons (by simpa using h)]; rfl
set_option maxHeartbeats 400000 in
theorem rEnd_any (s : ByteArray) (w : World) (hs : s.size ≤ 1000000) :
    Calls Tryz.prog 106 #[.string s] w fun e w' => e = .returned (.int .i64 (endF s.data.toList : Nat)) ∧ w = w' := by
  have hs := Nat.le_trans hs (Nat.le_refl _)
  go_enter Tryz.func106, Tryz.ntmps106
  go_wp2_with fail
  go_loop [3, 7] (fun b i => ∃ (k : Nat) (ins : Bool), k ≤ s.size ∧ i = .int .i64 k ∧ b = .bool ins ∧ Hid (endF s.data.toList = k + endG ins (s.data.toList.drop k))) (fun _ i => s.size - (intOf i).toNat)
  case atStart => exact ⟨0, false, Nat.zero_le _, rfl, rfl, Lib.hid (by simp)⟩
  case round =>
    obtain ⟨k, ins, hk, rfl, rfl, HE⟩ := hrel
    have hk0 : (0 : Int) ≤ (k : Int) := by omega
    by_cases hlt : k < s.size
    · have hlti : (k : Int) < (s.size : Int) := by omega
      have he : endF s.data.toList = k + endG ins (s[k] :: s.data.toList.drop (k + 1)) := by rw [← drop_cons s k hlt]; exact HE.out
      rw [endG] at he
      by_cases hc : s[k] = 39
      · have ec : ((s[k].toNat : Int) == 39) = true := by simp [hc]
        have ed : ((s[k].toNat : Int) == 44) = false := by simp [hc]
        have HN : Hid (endF s.data.toList = (k + 1 : Nat) + endG (!ins) (s.data.toList.drop (k + 1))) := Lib.hid (by
          rw [he, if_neg (by rw [hc]; simp), if_pos hc]; omega)
        clear he HE hc
        go_wp2_with fail
        go_round
        case rel => exact ⟨k + 1, !ins, by omega, by go_num, rfl, HN⟩
        case measure => simp [intOf]; omega
      · have ec : ((s[k].toNat : Int) == 39) = false := by
          simp
          intro hh
          exact hc (UInt8.toNat_inj.1 (show s[k].toNat = 39 by omega))
        rw [if_neg hc] at he
        by_cases hd : s[k] = 44
        · have ed : ((s[k].toNat : Int) == 44) = true := by simp [hd]
          cases ins
          · have HR : Hid (endF s.data.toList = k) := Lib.hid (by rw [he, if_pos ⟨hd, rfl⟩]; rfl)
            clear he HE hc hd
            go_wp2_with fail
            go_ret
            exact ⟨by rw [HR.out]; rfl, rfl⟩
          · have HN : Hid (endF s.data.toList = (k + 1 : Nat) + endG true (s.data.toList.drop (k + 1))) := Lib.hid (by
              rw [he, if_neg (by simp)]; omega)
            clear he HE hc hd
            go_wp2_with fail
            go_round
            case rel => exact ⟨k + 1, true, by omega, by go_num, rfl, HN⟩
            case measure => simp [intOf]; omega
        · have ed : ((s[k].toNat : Int) == 44) = false := by
            simp
            intro hh
            exact hd (UInt8.toNat_inj.1 (show s[k].toNat = 44 by omega))
          have HN : Hid (endF s.data.toList = (k + 1 : Nat) + endG ins (s.data.toList.drop (k + 1))) := Lib.hid (by
            rw [he, if_neg (fun e => hd e.1)]; omega)
          clear he HE hc hd
          go_wp2_with fail
          go_round
          case rel => exact ⟨k + 1, ins, by omega, by go_num, rfl, HN⟩
          case measure => simp [intOf]; omega
    · have HR : Hid (endF s.data.toList = s.size) := Lib.hid (by
        rw [HE.out, List.drop_eq_nil_of_le (by simpa using hlt)]
        simp only [endG]; omega)
      go_wp2_with fail
      go_ret
      exact ⟨by rw [HR.out]; rfl, rfl⟩
end Go.Proofs.YtapnnheggjahlaaGreatDoor
namespace Go.Proofs.YtapnnheggjahlaaGreatDoor
open Go.RowKit

theorem open_close {l : List UInt8} (h1 : Lib.hasPrefix l [40] = true) (h2 : Lib.hasSuffix (Lib.trimPrefix l [40]) [41] = true) : l = 40 :: (Lib.trimSuffix (Lib.trimPrefix l [40]) [41] ++ [41]) := by
  unfold Lib.trimPrefix at h2 ⊢
  rw [if_pos h1] at h2 ⊢
  match l, h1 with
  | [], h1 => simp [Lib.hasPrefix, List.isPrefixOf] at h1
  | c :: l, h1 =>
    have hc : c = 40 := by
      simp [Lib.hasPrefix, List.isPrefixOf] at h1
      exact h1.symm
    subst hc
    have e : (40 :: l).drop ([40] : List UInt8).length = l := rfl
    rw [e] at h2 ⊢
    unfold Lib.trimSuffix
    rw [if_pos h2]
    unfold Lib.hasSuffix at h2
    obtain ⟨q, hq⟩ : ∃ q, l = q ++ [41] := by
      have := List.isSuffixOf_iff_suffix.1 h2
      obtain ⟨q, hq⟩ := this
      exact ⟨q, hq.symm⟩
    rw [hq]
    simp
theorem open_has (t : List UInt8) : Lib.hasPrefix (40 :: (t ++ [41])) [40] = true ∧ Lib.hasSuffix (Lib.trimPrefix (40 :: (t ++ [41])) [40]) [41] = true := by
  have h1 : Lib.hasPrefix (40 :: (t ++ [41])) [40] = true := by simp [Lib.hasPrefix, List.isPrefixOf]
  refine ⟨h1, ?_⟩
  unfold Lib.trimPrefix
  rw [if_pos h1]
  exact List.isSuffixOf_iff_suffix.2 ⟨t, rfl⟩
theorem line_open {l : List UInt8} {r : List V} (h : LineIs l r) : Lib.hasPrefix l [40] = true ∧ Lib.hasSuffix (Lib.trimPrefix l [40]) [41] = true := by
  obtain ⟨t, rfl⟩ := line_form h
  exact open_has t
/-- how long a string is -/
def szOf : Value → Nat
  | .string s => s.size
  | _ => 0
theorem ext_take (t : ByteArray) (k : Nat) : (t.extract 0 k).data.toList = t.data.toList.take k := by
  rw [ByteArray.data_extract, Array.toList_extract]; simp [List.extract]
theorem ext_drop (t : ByteArray) (k : Nat) : (t.extract k t.size).data.toList = t.data.toList.drop k := by
  rw [ByteArray.data_extract, Array.toList_extract]
  simp only [List.extract]
  rw [List.take_of_length_le]
  rw [List.length_drop]
  exact Nat.le_refl _
theorem pV_yes {s : ByteArray} (h : parses s = true) : pV s.data.toList = some (readV s) := pV_some.2 (parses_fine h)
theorem pV_no {s : ByteArray} (h : parses s = false) : pV s.data.toList = none := by
  unfold pV
  rw [ba_of, h]; rfl
set_option maxHeartbeats 2000000 in
set_option maxRecDepth 100000 in
theorem rRead_any (s : ByteArray) (w : World) (hG : GE w) (hs : s.size ≤ 20000) :
    Calls Tryz.prog 82 #[.string s] w fun e w' => ((∃ v r, e = .returned (.tuple #[v, .bool true]) ∧ LineIs s.data.toList r ∧ OwnR w' w.heap.size v r) ∨ (e = .returned (.tuple #[.slice none 0 0, .bool false]) ∧ ∀ r, ¬ LineIs s.data.toList r)) ∧ Below w.heap.size w w' := by
  have HG := Lib.hid hG
  obtain ⟨i0, hi, hz0, hz1, hz2⟩ := info_parts infoV
  have HS := Lib.hid hs
  clear hG hs
  go_enter Tryz.func82, Tryz.ntmps82
  go_wp2_with fail
  refine (Tryz.strings_CutPrefix s ⟨#[40]⟩ w).mono ?_
  rintro e w1 ⟨rfl, hw1⟩
  obtain rfl : w = w1 := hw1.symm
  obtain ⟨x, hx⟩ : ∃ x : ByteArray, x = ⟨(Lib.trimPrefix s.data.toList (⟨#[40]⟩ : ByteArray).data.toList).toArray⟩ := ⟨_, rfl⟩
  obtain ⟨b1, hb1⟩ : ∃ b, b = Lib.hasPrefix s.data.toList (⟨#[40]⟩ : ByteArray).data.toList := ⟨_, rfl⟩
  rw [← hx, ← hb1]
  have hxl : x.data.toList = Lib.trimPrefix s.data.toList [40] := by rw [hx]
  have hxs : x.size ≤ 20000 := by
    have h1 := trimPrefix_len s.data.toList [40]
    have h2 := HS.out
    rw [← hxl] at h1
    simp at h1; omega
  have HX := Lib.hid (And.intro hxl hb1)
  clear hx hxl hb1
  go_wp2_with fail
  refine (Tryz.strings_CutSuffix x ⟨#[41]⟩ w (by omega)).mono ?_
  rintro e w1 ⟨rfl, hw1⟩
  obtain rfl : w = w1 := hw1.symm
  obtain ⟨y, hy⟩ : ∃ y : ByteArray, y = ⟨(Lib.trimSuffix x.data.toList (⟨#[41]⟩ : ByteArray).data.toList).toArray⟩ := ⟨_, rfl⟩
  obtain ⟨b2, hb2⟩ : ∃ b, b = Lib.hasSuffix x.data.toList (⟨#[41]⟩ : ByteArray).data.toList := ⟨_, rfl⟩
  rw [← hy, ← hb2]
  have hyl : y.data.toList = Lib.trimSuffix x.data.toList [41] := by rw [hy]
  have hys : y.size ≤ 20000 := by
    have h1 := trimSuffix_len x.data.toList [41]
    rw [← hyl] at h1
    simp at h1; omega
  have HF : Hid (b1 = false ∨ b2 = false → ∀ r, ¬ LineIs s.data.toList r) := Lib.hid fun h r hr => by
    obtain ⟨h1, h2⟩ := line_open hr
    rw [← HX.out.1] at h2
    rcases h with h | h
    · rw [HX.out.2] at h; exact absurd (h1.symm.trans h) (by decide)
    · rw [hb2] at h; exact absurd (h2.symm.trans h) (by decide)
  have HT : Hid (b1 = true → b2 = true → s.data.toList = 40 :: (y.data.toList ++ [41])) := Lib.hid fun h1 h2 => by
    rw [HX.out.2] at h1
    rw [hb2, HX.out.1] at h2
    rw [hyl, HX.out.1]
    exact open_close h1 h2
  clear hy hyl hb2 HX hxs
  cases b1
  · have HN := Lib.hid (HF.out (.inl rfl))
    clear HF HT
    go_wp2_with fail
    go_ret2
    exact ⟨.inr ⟨rfl, HN.out⟩, Below.refl _ _⟩
  · cases b2
    · have HN := Lib.hid (HF.out (.inr rfl))
      clear HF HT
      go_wp2_with fail
      go_ret2
      exact ⟨.inr ⟨rfl, HN.out⟩, Below.refl _ _⟩
    · have HE := Lib.hid (HT.out rfl rfl)
      clear HF HT
      by_cases hy0 : y = ⟨#[]⟩
      · subst hy0
        have HR : Hid (LineIs s.data.toList []) := Lib.hid (by rw [HE.out]; exact (line_none []).2 rfl)
        clear HE hys
        go_wp2_with fail
        go_ret2
        exact ⟨.inl ⟨_, [], rfl, HR.out, World.ownsRow_nil _ _ _ _⟩, Below.refl _ _⟩
      · have hyb : (y.toList == []) = false := by
          cases h : (y.toList == []) with
          | false => rfl
          | true =>
            have h1 : y.data.toList = [] := by rw [← toList_eq]; simpa using h
            exact absurd (ba_list (b := ⟨#[]⟩) h1) hy0
        have hne : y.data.toList ≠ [] := fun h1 => hy0 (ba_list (b := ⟨#[]⟩) h1)
        have H0 : Hid (∀ r, LineIs s.data.toList r ↔ ∃ r2, r = [] ++ r2 ∧ Says y.data.toList r2) := Lib.hid fun r => by
          rw [HE.out, line_says hne]
          exact ⟨fun h => ⟨r, rfl, h⟩, by rintro ⟨r2, rfl, h⟩; exact h⟩
        clear hy0 hne HE
        go_wp2_with fail
        go_loopw [0, 6] (fun sv rv wr => ∃ (t : ByteArray) (row : List V), sv = .string t ∧ row.length + t.size ≤ 20000 ∧ Hid (OwnR wr w.heap.size rv row ∧ Below w.heap.size w wr) ∧ Hid (∀ r, LineIs s.data.toList r ↔ ∃ r2, r = row ++ r2 ∧ Says t.data.toList r2)) (fun sv _ _ => szOf sv)
        case atStart => exact ⟨y, [], rfl, by simpa using hys, Lib.hid ⟨World.ownsRow_nil _ _ _ _, Below.refl _ _⟩, H0⟩
        case round =>
          obtain ⟨t, row, rfl, hsz, HI, HR⟩ := hrel
          clear hyb H0 hys
          go_wp2_with fail
          refine (rEnd_any t wr (by omega)).mono ?_
          rintro e w2 ⟨rfl, hw2⟩
          obtain rfl : wr = w2 := hw2
          obtain ⟨k, hk⟩ : ∃ k, k = endF t.data.toList := ⟨_, rfl⟩
          rw [← hk]
          have hkl : k ≤ t.size := by
            have h1 := endG_le false t.data.toList
            rw [hk]
            simpa using h1
          have hki : (k : Int) ≤ (t.size : Int) := by omega
          have HK := Lib.hid hk
          have hps : (t.extract 0 k).size ≤ 20000 := by rw [ByteArray.size_extract]; omega
          clear hk
          go_wp2_with fail
          by_cases hp : parses (t.extract 0 k) = true
          · have HV : Hid (pV (t.data.toList.take (endF t.data.toList)) = some (readV (t.extract 0 k))) := Lib.hid (by
              rw [← HK.out, ← ext_take]; exact pV_yes hp)
            refine (Parse_yes _ wr (HG.out.thn HI.out.2) hps hp).mono ?_
            rintro e w3 ⟨rfl, hb3⟩
            obtain ⟨v, hv⟩ : ∃ v, v = readV (t.extract 0 k) := ⟨_, rfl⟩
            rw [← hv] at HV ⊢
            have HI3 : Hid (OwnR w3 w.heap.size u6 row ∧ Below w.heap.size w w3) := Lib.hid ⟨own_below HI.out.1 hb3, thn HI.out.2 hb3⟩
            clear hv hp hb3 HI hps
            have hlt1 : 1 ≤ k := by
              rcases Nat.eq_zero_or_pos k with h0 | h0
              · have h1 := HV.out
                rw [← HK.out, h0, List.take_zero, pV_nil] at h1
                cases h1
              · exact h0
            go_wp2_with (at_builtin; refine wpList_append_any _ rfl (.tmp 39) (.tmp 41) 34 rfl w.heap.size 78 i0 (.agg #[.int .i64 0, .int .i64 0, .string ⟨#[]⟩]) 3 32 Tryz.underlying34 hi hz0 hz1 hz2 rfl (by decide) _ _ _ rfl (own_below HI3.out.1 (al (al (Below.refl _ _) _) _)) (w3.heap.size + 2) _ 1 1 (vcells [v]) rfl ?c0 ?c1 ?c2 ?c3 ?c4 ?_)
            case c0 => exact (VReads.one (Blk.new' (g := w3.heap.size + 1) (by simp)) (Nat.lt_succ_self _)).reads
            case c1 => exact vcells_one _
            case c2 => unfold maxLen; omega
            case c3 => omega
            case c4 => have := HI3.out.2.size; simp <;> omega
            intro v' w5 hown hgrow _
            have HI5 : Hid (OwnR w5 w.heap.size v' (row ++ [v]) ∧ Below w.heap.size w w5) := by
              refine ⟨?_, (al (al HI3.out.2 _) _).grown hgrow (by have := HI3.out.2.size; simp <;> omega) (own_base HI3.out.1)⟩
              show w5.ownsRow _ _ _ _ _ _
              rw [List.length_append, vcells_append]
              exact hown
            clear hown hgrow HI3
            by_cases hkt : k = t.size
            · have hkb : ((k : Int) == (t.size : Int)) = true := by simp [hkt]
              have HN : Hid (LineIs s.data.toList (row ++ [v])) := Lib.hid ((HR.out _).2 ⟨[v], rfl, (says_last HV.out (by rw [← HK.out, hkt]; rfl) _).2 rfl⟩)
              clear HV HR HK hkt
              go_wp2_with fail
              go_ret2
              exact ⟨.inl ⟨_, row ++ [v], rfl, HN.out, HI5.out.1⟩, HI5.out.2⟩
            · have hkb : ((k : Int) == (t.size : Int)) = false := beq_eq_false_iff_ne.2 (by omega)
              have hkL : endF t.data.toList < t.data.toList.length := by rw [← HK.out]; show k < t.size; omega
              have hless := trim_less HV.out
              rw [← HK.out, ← ext_drop] at hless
              have HLs := Lib.hid hless
              have HN : Hid (∀ r, LineIs s.data.toList r ↔ ∃ r2, r = (row ++ [v]) ++ r2 ∧ Says (Lib.trimPrefix (t.extract k t.size).data.toList [44, 32]) r2) := Lib.hid fun r => by
                rw [HR.out r]
                constructor
                · rintro ⟨r2, rfl, h2⟩
                  obtain ⟨r3, rfl, h3⟩ := (says_more HV.out hkL r2).1 h2
                  rw [← HK.out, ← ext_drop] at h3
                  exact ⟨r3, by simp, h3⟩
                · rintro ⟨r3, rfl, h3⟩
                  rw [ext_drop, HK.out] at h3
                  exact ⟨v :: r3, by simp, (says_more HV.out hkL _).2 ⟨r3, rfl, h3⟩⟩
              clear HV HR HK hkt hkL hless
              go_wp2_with fail
              refine (Tryz.strings_TrimPrefix (t.extract k t.size) ⟨#[44, 32]⟩ w5).mono ?_
              rintro e w6 ⟨rfl, hw6⟩
              obtain rfl : w5 = w6 := hw6.symm
              obtain ⟨z, hz⟩ : ∃ z : ByteArray, z = ⟨(Lib.trimPrefix (t.extract k t.size).data.toList (⟨#[44, 32]⟩ : ByteArray).data.toList).toArray⟩ := ⟨_, rfl⟩
              rw [← hz]
              have hzl : z.data.toList = Lib.trimPrefix (t.extract k t.size).data.toList [44, 32] := by rw [hz]
              have HN2 : Hid (∀ r, LineIs s.data.toList r ↔ ∃ r2, r = (row ++ [v]) ++ r2 ∧ Says z.data.toList r2) := by
                rw [hzl]; exact HN
              have hz1 : z.size < t.size := by
                have h1 := HLs.out
                rw [← hzl] at h1
                exact h1
              clear hz hzl HN HLs
              go_wp2_with fail
              go_roundw
              case rel => exact ⟨z, row ++ [v], rfl, by simp only [List.length_append, List.length_cons, List.length_nil]; omega, HI5, HN2⟩
              case measure => exact hz1
          · have hp' : parses (t.extract 0 k) = false := by simpa using hp
            have HN : Hid (∀ r, ¬ LineIs s.data.toList r) := Lib.hid fun r hr => by
              obtain ⟨r2, -, h2⟩ := (HR.out r).1 hr
              refine says_none ?_ r2 h2
              rw [← HK.out, ← ext_take]
              exact pV_no hp'
            refine (Parse_no _ wr (HG.out.thn HI.out.2) hps hp').mono ?_
            rintro e w3 ⟨rfl, hb3⟩
            have HB := Lib.hid (thn HI.out.2 hb3)
            clear hp hp' hb3 HI hps HR
            go_wp2_with fail
            go_ret2
            exact ⟨.inr ⟨rfl, HN.out⟩, al HB.out _⟩
end Go.Proofs.YtapnnheggjahlaaGreatDoor
namespace Go.Proofs.YtapnnheggjahlaaGreatDoor
open Go.RowKit

theorem cutLine_any (s : ByteArray) (w : World) (hG : GE w) (hs : s.size ≤ 20000) :
    Calls Tryz.prog 81 #[.string s, .string ⟨#[10]⟩] w fun e w' => ∃ (x y : ByteArray) (b : Bool), e = .returned (.tuple #[.string x, .string y, .bool b]) ∧ x.size ≤ 20000 ∧ y.size ≤ s.size ∧ ((b = false ∧ (10 : UInt8) ∉ s.data.toList) ∨ (b = true ∧ y.size < s.size ∧ s.data.toList = x.data.toList ++ 10 :: y.data.toList ∧ (10 : UInt8) ∉ x.data.toList)) ∧ Below w.heap.size w w' := by
  obtain ⟨m, hm⟩ := hG.g.max
  refine (Any.strings_Cut { Tryz.laysM145 with } s ⟨#[10]⟩ m w (by omega) hm).mono fun e w' ⟨h, n, h2⟩ => ?_
  have hb : Below w.heap.size w w' := by rw [h2]; exact below_drewN (Below.refl _ _) n
  have hz : s.data.toList.length = s.size := Array.length_toList
  change e = .returned (.tuple #[.string ⟨(Lib.cut s.data.toList [10]).1.toArray⟩, .string ⟨(Lib.cut s.data.toList [10]).2.1.toArray⟩, .bool (Lib.cut s.data.toList [10]).2.2]) at h
  rcases cut_line s.data.toList with ⟨h3, h4⟩ | ⟨l, t, h3, h4, h5⟩
  · rw [h4] at h
    refine ⟨_, _, _, h, ?_, ?_, .inl ⟨rfl, h3⟩, hb⟩
    · show (s.data.toList.toArray).size ≤ _
      simp; exact hs
    · exact Nat.zero_le _
  · rw [h5] at h
    have h6 := congrArg List.length h3
    simp only [List.length_append, List.length_cons] at h6
    refine ⟨_, _, _, h, ?_, ?_, .inr ⟨rfl, ?_, by simpa using h3, by simpa using h4⟩, hb⟩
    · show l.toArray.size ≤ _
      simp; omega
    · show t.toArray.size ≤ _
      simp; omega
    · show t.toArray.size < _
      simp; omega
theorem body_len : ∀ {r : List V}, (∀ v ∈ r, v.fine) → r.length ≤ (body r).length
  | [], _ => Nat.zero_le _
  | v :: r, h => by
    have h1 : ∀ q : List V, q.length ≤ (q.flatMap fun v => 44 :: 32 :: strV v).length := fun q => by
      induction q with
      | nil => exact Nat.zero_le _
      | cons x q ih => simp only [List.flatMap_cons, List.length_append, List.length_cons]; omega
    obtain ⟨c, q, e, _⟩ := strV_ne (h v (List.mem_cons_self ..))
    have h2 := h1 r
    simp only [body, List.length_append, List.length_cons, e]
    omega
theorem line_len {l : List UInt8} {r : List V} (h : LineIs l r) : r.length ≤ l.length := by
  have h1 := body_len h.1
  rw [← h.2, rowS_body]
  simp only [List.length_cons, List.length_append]
  omega
theorem fine_size {v : V} (h : v.fine) : v.s.size ≤ 200 := by
  rcases ok_cases h.1 with ⟨_, _, c⟩ | ⟨_, c⟩ | ⟨_, _, c⟩ | ⟨_, _, c⟩ | ⟨_, _, c⟩
  · rw [c]; decide
  · rw [c]; decide
  · rw [c]; decide
  · rw [c]; decide
  · exact okText_size c
theorem inL_fine {L : List (List V)} (h : L.length ≤ 20000) (hf : ∀ r ∈ L, r.length ≤ 20000 ∧ ∀ v ∈ r, v.fine) : InL L :=
  ⟨by unfold maxLen; omega, fun r hr => ⟨by have := (hf r hr).1; unfold maxLen; omega, fun v hv => ⟨by have := fine_size ((hf r hr).2 v hv); unfold maxLen; omega, ((hf r hr).2 v hv).2⟩⟩⟩
/-- what the program says of a string -/
def ParsR (w w' : World) (l : List UInt8) (e : Ending) : Prop :=
  (∃ v L, e = .returned (.tuple #[v, .int .i64 0]) ∧ StrIs l L ∧ chkR [L] = 0 ∧ InL L ∧ OutR w w' v L) ∨ (e = .returned (.tuple #[.slice none 0 0, .int .i64 20]) ∧ ∀ L, StrIs l L → chkR [L] ≠ 0)
set_option maxHeartbeats 4000000 in
set_option maxRecDepth 100000 in
theorem ParseR_any (s : ByteArray) (w : World) (hG : GE w) (hs : s.size ≤ 20000) :
    Calls Tryz.prog 46 #[.string s] w fun e w' => ParsR w w' s.data.toList e ∧ Below w.heap.size w w' := by
  have HG := Lib.hid hG
  obtain ⟨i0, hi, hz0, hz1, hz2⟩ := info_parts infoR
  have hsz : decide ((20000 : Int) < (s.size : Int)) = false := by simp; omega
  clear hG
  go_enter Tryz.func46, Tryz.ntmps46
  go_wp2_with fail
  go_loopw [0, 4] (fun sv ov wr => ∃ (t : ByteArray) (L : List (List V)), sv = .string t ∧ L.length + t.size ≤ 20000 ∧ Hid (∃ vs, wr.ownsRow w.heap.size 34 1 ov L.length vs ∧ OwnRs wr w.heap.size vs L ∧ Apart ov vs ∧ Below w.heap.size w wr) ∧ Hid (∀ r ∈ L, r.length ≤ 20000 ∧ ∀ v ∈ r, v.fine) ∧ Hid (∀ M, StrIs s.data.toList M ↔ ∃ M2, M = L ++ M2 ∧ StrIs t.data.toList M2)) (fun sv _ _ => szOf sv)
  case atStart => exact ⟨s, [], rfl, by simpa using hs, ⟨[], ⟨rfl, .inl ⟨rfl, rfl⟩⟩, OwnRs.nil _ _, fun x hx => (by cases hx), Below.refl _ _⟩, Lib.hid fun r hr => (by cases hr), Lib.hid fun M => ⟨fun h => ⟨M, rfl, h⟩, by rintro ⟨M2, rfl, h⟩; exact h⟩⟩
  case round =>
    obtain ⟨t, L, rfl, hsz, HI, HF, HR⟩ := hrel
    by_cases ht : t = ⟨#[]⟩
    · subst ht
      obtain ⟨vs, hown, hrs, hap, hbw⟩ := HI.out
      obtain ⟨A, c, rfl, hl⟩ := OutR.lreads ⟨vs, hown, hrs⟩
      have HO := Lib.hid (And.intro hl (And.intro (⟨vs, hown, hrs⟩ : OutR w wr _ L) hbw))
      have HL : Hid (InL L) := Lib.hid (inL_fine (by omega) HF.out)
      have HM : Hid (∀ M, StrIs s.data.toList M ↔ M = L) := Lib.hid fun M => by
        rw [HR.out M]
        constructor
        · rintro ⟨M2, rfl, h⟩
          rw [(strIs_nil M2).1 h, List.append_nil]
        · rintro rfl
          exact ⟨[], by simp, (strIs_nil []).2 rfl⟩
      clear hown hrs hap hbw hl HI HR
      go_wp2_with fail
      have q1 := Blk.new wr 23 #[.slice A L.length c]
      have q2 : Below wr.heap.size wr (wr.alloc (.cells #[.slice A L.length c] 23)) := al (Below.refl _ _) _
      have q3 := LLReads.one q1 (HO.out.1.below q2 q2.size)
      refine (checkR_any _ _ [L] _ q3 (fun X hX => ?_) (by simp)).mono ?_
      · simp only [List.mem_cons, List.not_mem_nil, or_false] at hX
        subst hX
        exact HL.out.fit
      rintro e w1 ⟨rfl, hb1⟩
      have hb2 := thn q2 hb1
      have HO2 : Hid (OutR w w1 (.slice A L.length c) L ∧ Below w.heap.size w w1) := by
        obtain ⟨h1, ⟨vs, h2, h3⟩, h4⟩ := HO.out
        exact ⟨⟨vs, own_below h2 hb2, h3.below hb2⟩, thn h4 hb2⟩
      clear q1 q2 q3 hb1 hb2 HO
      obtain ⟨z, hz⟩ : ∃ z, z = chkR [L] := ⟨_, rfl⟩
      rw [← hz]
      by_cases h0 : z = 0
      · have he : (z != 0) = false := by simp [h0]
        have HZ : Hid (chkR [L] = 0) := Lib.hid (by rw [← hz, h0])
        clear h0 hz
        go_wp2_with fail
        go_ret2
        exact ⟨.inl ⟨_, L, rfl, (HM.out L).2 rfl, HZ.out, HL.out, HO2.out.1⟩, HO2.out.2⟩
      · have he : (z != 0) = true := by simp [h0]
        have HZ : Hid (chkR [L] ≠ 0) := Lib.hid (by rw [← hz]; exact h0)
        clear h0 hz
        go_wp2_with fail
        go_ret2
        exact ⟨.inr ⟨rfl, fun M hM => by rw [(HM.out M).1 hM]; exact HZ.out⟩, HO2.out.2⟩
    · have htb : (t.toList == []) = false := by
        cases h : (t.toList == []) with
        | false => rfl
        | true =>
          have h1 : t.data.toList = [] := by rw [← toList_eq]; simpa using h
          exact absurd (ba_list (b := ⟨#[]⟩) h1) ht
      have HT : Hid (t.data.toList ≠ []) := Lib.hid fun h1 => ht (ba_list (b := ⟨#[]⟩) h1)
      clear ht
      go_wp2_with fail
      refine (cutLine_any t wr (HG.out.thn (HI.out.choose_spec.2.2.2)) (by omega)).mono ?_
      rintro e w1 ⟨x, y, b, rfl, hxs, hys, hcs, hb1⟩
      have HC := Lib.hid hcs
      obtain ⟨vs, hown, hrs, hap, hbw⟩ := HI.out
      have HI1 : Hid (w1.ownsRow w.heap.size 34 1 u4 L.length vs ∧ OwnRs w1 w.heap.size vs L ∧ Apart u4 vs ∧ Below w.heap.size w w1) := ⟨own_below hown hb1, hrs.below hb1, hap, thn hbw hb1⟩
      clear hcs hown hrs hap hbw hb1 HI
      have HNo : Hid (b = false → ∀ M, ¬ StrIs s.data.toList M) := Lib.hid fun hb M hM => by
        obtain ⟨M2, -, h2⟩ := (HR.out M).1 hM
        rcases HC.out with ⟨-, h3⟩ | ⟨h3, -⟩
        · exact strIs_no HT.out h3 M2 h2
        · rw [h3] at hb; cases hb
      go_wp2_with fail
      refine (rRead_any x w1 (HG.out.thn HI1.out.2.2.2) hxs).mono ?_
      rintro e w2 ⟨⟨v, r, rfl, hl, ho⟩ | ⟨rfl, hno⟩, hb2⟩
      · obtain ⟨Ar, cr, rfl⟩ := own_slice ho
        have HI2 : Hid (w2.ownsRow w.heap.size 34 1 u4 L.length vs ∧ OwnRs w2 w.heap.size (vs ++ [.slice Ar r.length cr]) (L ++ [r]) ∧ Apart u4 (vs ++ [.slice Ar r.length cr]) ∧ Below w.heap.size w w2) := by
          obtain ⟨h1, h2, h3, h4⟩ := HI1.out
          refine ⟨own_below h1 hb2, OwnRs.snoc (h2.below hb2) (own_weaker ho h4.size), fun z hz => ?_, thn h4 hb2⟩
          rcases List.mem_append.1 hz with h | h
          · exact h3 z h
          · simp only [List.mem_cons, List.not_mem_nil, or_false] at h
            subst h
            cases hb : Value.ownBlock (.slice Ar r.length cr) with
            | none => exact .inl rfl
            | some g =>
              refine .inr fun e => ?_
              have := (ho.lt g hb).1
              have := (h1.lt g e.symm).2
              omega
        have HLi := Lib.hid hl
        clear hl ho hb2 HI1
        cases b
        · have HN := Lib.hid (HNo.out rfl)
          clear HNo HC HR
          go_wp2_with fail
          go_ret2
          exact ⟨.inr ⟨rfl, fun M hM => absurd hM (HN.out M)⟩, HI2.out.2.2.2⟩
        · have HS : Hid (y.size < t.size ∧ t.data.toList = x.data.toList ++ 10 :: y.data.toList ∧ (10 : UInt8) ∉ x.data.toList) := Lib.hid (by
            rcases HC.out with ⟨h, -⟩ | ⟨-, h⟩
            · cases h
            · exact h)
          have hyl := HS.out.1
          have q2 := sread_one (Blk.new w2 34 #[.slice Ar r.length cr]) (B := w2.heap.size + 1) (by omega)
          have HQ := Lib.hid q2
          clear q2 HNo HC
          go_wp2_with (at_builtin; refine wpList_append_any _ rfl (.tmp 32) (.tmp 34) 23 rfl w.heap.size 34 i0 (.slice none 0 0) 1 24 Tryz.underlying23 hi hz0 hz1 hz2 rfl (by decide) _ _ _ rfl (HI2.out.1.alloc (.cells #[.slice Ar r.length cr] 34)) (w2.heap.size + 1) _ 1 1 [.slice Ar r.length cr] rfl HQ.out ?c1 ?c2 ?c3 ?c4 ?_)
          case c1 => intro u hu; simp only [List.mem_cons, List.not_mem_nil, or_false] at hu; subst hu; rfl
          case c2 => unfold maxLen; omega
          case c3 => omega
          case c4 => have := HI2.out.2.2.2.size; simp <;> omega
          intro v2 w3 hown2 hgr2 hu2
          have HN : Hid (∃ vs, w3.ownsRow w.heap.size 34 1 v2 (L ++ [r]).length vs ∧ OwnRs w3 w.heap.size vs (L ++ [r]) ∧ Apart v2 vs ∧ Below w.heap.size w w3) := by
            obtain ⟨y1, y2, y3, y4⟩ := HI2.out
            have z1 := y2.below (al (Below.refl _ _) (.cells #[.slice Ar r.length cr] 34))
            rw [List.length_append]
            exact ⟨_, hown2, z1.kept y3 hgr2, Apart.app z1 y3 (n := w2.heap.size + 1) (by simp) hu2, (y4.alloc y4.size _).grown hgr2 (by have := y4.size; simp <;> omega) (own_base y1)⟩
          have HF2 : Hid (∀ q ∈ L ++ [r], q.length ≤ 20000 ∧ ∀ v ∈ q, v.fine) := Lib.hid fun q hq => by
            rcases List.mem_append.1 hq with h | h
            · exact HF.out q h
            · simp only [List.mem_cons, List.not_mem_nil, or_false] at h
              subst h
              have h1 := line_len HLi.out
              have h2 : x.data.toList.length = x.size := Array.length_toList
              exact ⟨by omega, HLi.out.1⟩
          have HR2 : Hid (∀ M, StrIs s.data.toList M ↔ ∃ M2, M = (L ++ [r]) ++ M2 ∧ StrIs y.data.toList M2) := Lib.hid fun M => by
            rw [HR.out M, HS.out.2.1]
            constructor
            · rintro ⟨M2, rfl, h2⟩
              obtain ⟨q, M3, rfl, h3, h4⟩ := (strIs_line HS.out.2.2 M2).1 h2
              rw [line_one h3 HLi.out]
              exact ⟨M3, by simp, h4⟩
            · rintro ⟨M3, rfl, h4⟩
              exact ⟨r :: M3, by simp, (strIs_line HS.out.2.2 _).2 ⟨r, M3, rfl, HLi.out, h4⟩⟩
          clear hown2 hgr2 hu2 HI2 HF HR HQ HS HLi
          go_wp2_with fail
          go_roundw
          case rel => exact ⟨y, L ++ [r], rfl, by simp only [List.length_append, List.length_cons, List.length_nil]; omega, HN, HF2, HR2⟩
          case measure => exact hyl
      · have HN : Hid (∀ M, ¬ StrIs s.data.toList M) := Lib.hid fun M hM => by
          obtain ⟨M2, -, h2⟩ := (HR.out M).1 hM
          rcases HC.out with ⟨h3, h4⟩ | ⟨-, -, h4, h5⟩
          · exact strIs_no HT.out h4 M2 h2
          · rw [h4] at h2
            obtain ⟨q, M3, -, h6, -⟩ := (strIs_line h5 M2).1 h2
            exact hno q h6
        have HB := Lib.hid (thn HI1.out.2.2.2 hb2)
        clear hno hb2 HI1 HNo HC HR
        cases b
        · go_wp2_with fail
          go_ret2
          exact ⟨.inr ⟨rfl, fun M hM => absurd hM (HN.out M)⟩, HB.out⟩
        · go_wp2_with fail
          go_ret2
          exact ⟨.inr ⟨rfl, fun M hM => absurd hM (HN.out M)⟩, HB.out⟩
end Go.Proofs.YtapnnheggjahlaaGreatDoor
