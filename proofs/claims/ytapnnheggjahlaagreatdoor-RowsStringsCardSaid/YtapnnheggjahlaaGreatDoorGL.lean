/-
  Inj: PLAIN MATHEMATICS: a row's string tells the row; so rows are counted by their strings.
  Dd: PLAIN MATHEMATICS: the different rows of a rising list, row by row; what Both and Minus give, row by row.
-/
import Derived.Test.YtapnnheggjahlaaGreatDoorSets
namespace Go.Proofs.YtapnnheggjahlaaGreatDoor
open Go.RowKit

/-- a byte that ends no value outside of a text -/
def inW (c : UInt8) : Prop := c ≠ 44 ∧ c ≠ 41 ∧ c ≠ 39
theorem strV_word {v : V} (h : v.fine) : (v.k = 3 ∧ strV v = 39 :: (quote v.s.data.toList ++ [39])) ∨ (∃ c r, strV v = c :: r ∧ ∀ x ∈ strV v, inW x) := by
  obtain ⟨k, n, s⟩ := v
  have hd : ∀ u : Nat, ∀ c ∈ Lib.decDigits u, inW c := fun u c hc => by
    have := (dec_dig u).2 c hc
    refine ⟨?_, ?_, ?_⟩ <;> (rintro rfl; simp at this)
  rcases ok_cases h.1 with ⟨h1, h2, h3⟩ | ⟨h1, h3⟩ | ⟨h1, h2, h3⟩ | ⟨h1, h2, h3⟩ | ⟨h1, h2, ht⟩
  · right
    simp only at h1 h2 h3
    subst h1 h2 h3
    refine ⟨110, _, rfl, fun x hx => ?_⟩
    have hx : x ∈ ([110, 117, 108, 108] : List UInt8) := hx
    simp only [List.mem_cons, List.not_mem_nil, or_false] at hx
    rcases hx with rfl | rfl | rfl | rfl <;> (unfold inW; decide)
  · right
    simp only at h1 h3
    subst h1 h3
    obtain ⟨c, r, e, _⟩ := itoa_head n
    refine ⟨c, r, e, fun x hx => ?_⟩
    have hx : x ∈ Lib.itoa n := hx
    unfold Lib.itoa at hx
    split at hx
    · rcases List.mem_cons.1 hx with rfl | hx
      · unfold inW; decide
      · exact hd _ x hx
    · exact hd _ x hx
  · right
    simp only at h1 h2 h3
    subst h1 h2 h3
    refine ⟨102, _, rfl, fun x hx => ?_⟩
    have hx : x ∈ ([102, 97, 108, 115, 101] : List UInt8) := hx
    simp only [List.mem_cons, List.not_mem_nil, or_false] at hx
    rcases hx with rfl | rfl | rfl | rfl | rfl <;> (unfold inW; decide)
  · right
    simp only at h1 h2 h3
    subst h1 h2 h3
    refine ⟨116, _, rfl, fun x hx => ?_⟩
    have hx : x ∈ ([116, 114, 117, 101] : List UInt8) := hx
    simp only [List.mem_cons, List.not_mem_nil, or_false] at hx
    rcases hx with rfl | rfl | rfl | rfl <;> (unfold inW; decide)
  · left
    simp only at h1 h2
    subst h1 h2
    exact ⟨rfl, strB_text s⟩
/-- two words, each with an end behind it -/
theorem word_cut : ∀ (a b : List UInt8) (c d : UInt8) (r q : List UInt8), (∀ x ∈ a, inW x) → (∀ x ∈ b, inW x) → (c = 44 ∨ c = 41) → (d = 44 ∨ d = 41) → a ++ c :: r = b ++ d :: q → a = b ∧ c :: r = d :: q
  | [], [], _, _, _, _, _, _, _, _, h => ⟨rfl, h⟩
  | [], y :: b, c, d, r, q, _, hb, hc, _, h => by
    simp only [List.nil_append, List.cons_append, List.cons.injEq] at h
    have := hb y (List.mem_cons_self ..)
    rcases hc with rfl | rfl
    · exact absurd h.1.symm this.1
    · exact absurd h.1.symm this.2.1
  | x :: a, [], c, d, r, q, ha, _, _, hd, h => by
    simp only [List.nil_append, List.cons_append, List.cons.injEq] at h
    have := ha x (List.mem_cons_self ..)
    rcases hd with rfl | rfl
    · exact absurd h.1 this.1
    · exact absurd h.1 this.2.1
  | x :: a, y :: b, c, d, r, q, ha, hb, hc, hd, h => by
    simp only [List.cons_append, List.cons.injEq] at h
    obtain ⟨h1, h2⟩ := word_cut a b c d r q (fun z hz => ha z (List.mem_cons_of_mem _ hz)) (fun z hz => hb z (List.mem_cons_of_mem _ hz)) hc hd h.2
    exact ⟨by rw [h.1, h1], h2⟩
/-- two texts, each with an end behind it -/
theorem text_cut : ∀ (a b : List UInt8) (c d : UInt8) (r q : List UInt8), (c = 44 ∨ c = 41) → (d = 44 ∨ d = 41) → quote a ++ 39 :: c :: r = quote b ++ 39 :: d :: q → a = b ∧ c :: r = d :: q
  | [], [], _, _, _, _, _, _, h => by simpa [quote] using h
  | [], y :: b, c, d, r, q, hc, _, h => by
    rw [quote_cons] at h
    by_cases e : y = 39
    · subst e
      simp [quote] at h
      rcases hc with rfl | rfl
      · simp at h
      · simp at h
    · simp [quote, e] at h
      exact absurd h.1.symm e
  | x :: a, [], c, d, r, q, _, hd, h => by
    rw [quote_cons] at h
    by_cases e : x = 39
    · subst e
      simp [quote] at h
      rcases hd with rfl | rfl
      · simp at h
      · simp at h
    · simp [quote, e] at h
  | x :: a, y :: b, c, d, r, q, hc, hd, h => by
    rw [quote_cons, quote_cons] at h
    by_cases e : x = 39
    · by_cases f : y = 39
      · subst e f
        simp only [if_true, List.cons_append, List.nil_append, List.cons.injEq, true_and] at h
        obtain ⟨h1, h2⟩ := text_cut a b c d r q hc hd h
        exact ⟨by rw [h1], h2⟩
      · subst e
        simp [f] at h
        exact absurd h.1.symm f
    · by_cases f : y = 39
      · subst f
        simp [e] at h
      · simp only [e, f, if_false, List.cons_append, List.nil_append, List.cons.injEq] at h
        obtain ⟨h1, h2⟩ := text_cut a b c d r q hc hd h.2
        exact ⟨by rw [h.1, h1], h2⟩
theorem strV_back {v : V} (h : v.fine) : readV ⟨(strV v).toArray⟩ = v := by
  obtain ⟨k, n, s⟩ := v
  exact readV_strB k n s h.1 h.2
theorem strV_inj {v u : V} (h : v.fine) (h' : u.fine) (e : strV v = strV u) : v = u := by
  rw [← strV_back h, ← strV_back h', e]
theorem strV_cut {v u : V} {c d : UInt8} {r q : List UInt8} (h : v.fine) (h' : u.fine) (hc : c = 44 ∨ c = 41) (hd : d = 44 ∨ d = 41) (e : strV v ++ c :: r = strV u ++ d :: q) : v = u ∧ c :: r = d :: q := by
  rcases strV_word h with ⟨_, a⟩ | ⟨c1, r1, a, ha⟩
  · rcases strV_word h' with ⟨_, b⟩ | ⟨c2, r2, b, hb⟩
    · rw [a, b] at e
      simp only [List.cons_append, List.append_assoc, List.nil_append, List.cons.injEq, true_and] at e
      obtain ⟨h1, h2⟩ := text_cut _ _ _ _ _ _ hc hd e
      refine ⟨strV_inj h h' (by rw [a, b, h1]), h2⟩
    · rw [a] at e
      have h1 := hb c2 (by rw [b]; exact List.mem_cons_self ..)
      rw [b] at e
      simp only [List.cons_append, List.cons.injEq] at e
      exact absurd e.1.symm h1.2.2
  · rcases strV_word h' with ⟨_, b⟩ | ⟨c2, r2, b, hb⟩
    · rw [b] at e
      have h1 := ha c1 (by rw [a]; exact List.mem_cons_self ..)
      rw [a] at e
      simp only [List.cons_append, List.cons.injEq] at e
      exact absurd e.1 h1.2.2
    · obtain ⟨h1, h2⟩ := word_cut _ _ _ _ _ _ ha hb hc hd e
      exact ⟨strV_inj h h' h1, h2⟩
/-- what follows the first value -/
def tlS (r : List V) : List UInt8 := (r.flatMap fun v => 44 :: 32 :: strV v) ++ [41]
theorem tlS_cons (v : V) (r : List V) : tlS (v :: r) = 44 :: 32 :: (strV v ++ tlS r) := by simp [tlS]
theorem tlS_head (r : List V) : ∃ c q, tlS r = c :: q ∧ (c = 44 ∨ c = 41) := by
  match r with
  | [] => exact ⟨41, [], rfl, .inr rfl⟩
  | v :: r => exact ⟨44, _, tlS_cons v r, .inl rfl⟩
theorem tlS_inj : ∀ (r q : List V), (∀ v ∈ r, v.fine) → (∀ v ∈ q, v.fine) → tlS r = tlS q → r = q
  | [], [], _, _, _ => rfl
  | [], u :: q, _, _, h => by rw [tlS_cons] at h; simp [tlS] at h
  | v :: r, [], _, _, h => by rw [tlS_cons] at h; simp [tlS] at h
  | v :: r, u :: q, hr, hq, h => by
    rw [tlS_cons, tlS_cons] at h
    simp only [List.cons.injEq, true_and] at h
    obtain ⟨c, a, e1, hc⟩ := tlS_head r
    obtain ⟨d, b, e2, hd⟩ := tlS_head q
    rw [e1, e2] at h
    obtain ⟨h1, h2⟩ := strV_cut (hr v (List.mem_cons_self ..)) (hq u (List.mem_cons_self ..)) hc hd h
    rw [← e1, ← e2] at h2
    rw [h1, tlS_inj r q (fun z hz => hr z (List.mem_cons_of_mem _ hz)) (fun z hz => hq z (List.mem_cons_of_mem _ hz)) h2]
theorem rowPre_cons (v : V) (r : List V) : ∀ k, k ≤ r.length → rowPre (v :: r) (k + 1) = 40 :: (strV v ++ (r.take k).flatMap fun v => 44 :: 32 :: strV v)
  | 0, _ => by simp [rowPre]
  | k + 1, hk => by
    have ih := rowPre_cons v r k (by omega)
    have h2 : k < r.length := by omega
    rw [rowPre, ih, if_pos (by omega), List.getElem?_cons_succ, List.getElem?_eq_getElem h2, List.take_succ_eq_append_getElem h2, List.flatMap_append]
    simp
theorem rowS_nil : rowS [] = [40, 41] := rfl
theorem rowS_cons (v : V) (r : List V) : rowS (v :: r) = 40 :: (strV v ++ tlS r) := by
  unfold rowS tlS
  rw [List.length_cons, rowPre_cons v r r.length (Nat.le_refl _), List.take_length]
  simp
theorem strV_ne {v : V} (h : v.fine) : ∃ c r, strV v = c :: r ∧ c ≠ 41 := by
  rcases strV_word h with ⟨_, a⟩ | ⟨c1, r1, a, ha⟩
  · exact ⟨39, _, a, by decide⟩
  · exact ⟨c1, r1, a, (ha c1 (by rw [a]; exact List.mem_cons_self ..)).2.1⟩
theorem rowS_inj {r q : List V} (hr : ∀ v ∈ r, v.fine) (hq : ∀ v ∈ q, v.fine) (h : rowS r = rowS q) : r = q := by
  match r, q with
  | [], [] => rfl
  | [], u :: q =>
    rw [rowS_nil, rowS_cons] at h
    obtain ⟨c, a, e, hc⟩ := strV_ne (hq u (List.mem_cons_self ..))
    rw [e] at h
    simp only [List.cons_append, List.cons.injEq, true_and] at h
    exact absurd h.1.symm hc
  | v :: r, [] =>
    rw [rowS_nil, rowS_cons] at h
    obtain ⟨c, a, e, hc⟩ := strV_ne (hr v (List.mem_cons_self ..))
    rw [e] at h
    simp only [List.cons_append, List.cons.injEq, true_and] at h
    exact absurd h.1 hc
  | v :: r, u :: q =>
    rw [rowS_cons, rowS_cons] at h
    simp only [List.cons.injEq, true_and] at h
    obtain ⟨c, a, e1, hc⟩ := tlS_head r
    obtain ⟨d, b, e2, hd⟩ := tlS_head q
    rw [e1, e2] at h
    obtain ⟨h1, h2⟩ := strV_cut (hr v (List.mem_cons_self ..)) (hq u (List.mem_cons_self ..)) hc hd h
    rw [← e1, ← e2] at h2
    rw [h1, tlS_inj r q (fun z hz => hr z (List.mem_cons_of_mem _ hz)) (fun z hz => hq z (List.mem_cons_of_mem _ hz)) h2]
theorem cnt_count {x : List V} (hx : ∀ v ∈ x, v.fine) : ∀ {L : List (List V)}, FineL L → cnt (rowS x) L = L.count x
  | [], _ => rfl
  | r :: L, h => by
    have ih := cnt_count hx (L := L) (fun q hq => h q (List.mem_cons_of_mem _ hq))
    unfold cnt at ih ⊢
    rw [List.filter_cons, List.count_cons, ← ih]
    by_cases e : r = x
    · subst e; simp
    · have : (rowS r == rowS x) = false := beq_eq_false_iff_ne.2 fun h' => e (rowS_inj (h r (List.mem_cons_self ..)).2 hx h')
      rw [this]
      simp [e]
/-- how often a row is in both, in the reference's words -/
def nBoth (all : Bool) (p q : Nat) : Nat := if all then min p q else min (min p q) 1
def nMinus (all : Bool) (p q : Nat) : Nat := if all then p - q else if q = 0 then 1 else 0
def bothR (all : Bool) (a b : List (List V)) : List (List V) := (hdsR (canon a)).flatMap fun x => List.replicate (nBoth all (a.count x) (b.count x)) x
def minusR (all : Bool) (a b : List (List V)) : List (List V) := (hdsR (canon a)).flatMap fun x => List.replicate (nMinus all (a.count x) (b.count x)) x
theorem canon_hds {L : List (List V)} {x : List V} (h : x ∈ hdsR (canon L)) : x ∈ L := srtC_mem.1 (hdsR_mem h)
theorem both_choose (all : Bool) {a b : List (List V)} (ha : FineL a) (hb : FineL b) : chooseR (fun n x => fBoth all n (cnt (rowS x) b)) a = bothR all a b := by
  unfold chooseR bothR
  refine flatMap_same fun x hx => ?_
  have hm := canon_hds hx
  simp only [cnt_count (ha x hm).2 hb]
  congr 1
  unfold fBoth nBoth
  split <;> omega
theorem minus_choose (all : Bool) {a b : List (List V)} (ha : FineL a) (hb : FineL b) : chooseR (fun n x => fMinus all n (cnt (rowS x) b)) a = minusR all a b := by
  unfold chooseR minusR
  refine flatMap_same fun x hx => ?_
  have hm := canon_hds hx
  have hc : 0 < a.count x := List.count_pos_iff.2 hm
  simp only [cnt_count (ha x hm).2 hb]
  congr 1
  unfold fMinus nMinus
  split
  · omega
  · split <;> omega
end Go.Proofs.YtapnnheggjahlaaGreatDoor
namespace Go.Proofs.YtapnnheggjahlaaGreatDoor
open Go.RowKit

theorem ddR_snoc (l : List (List V)) (x : List V) : ddR (l ++ [x]) = ddRStep (ddR l) x := by simp [ddR]
theorem ddR_last (l : List (List V)) (x : List V) : (ddR (l ++ [x])).getLast? = some x := by
  rw [ddR_snoc]
  unfold ddRStep
  split
  · assumption
  · simp
theorem ddR_zero {S : List (List V)} (h : 0 < S.length) : ddR (S.take 1) = [S[0]] := by
  match S, h with
  | x :: t, _ => simp [ddR, ddRStep]
theorem ddR_same {S : List (List V)} {k : Nat} (h0 : 0 < k) (h : k < S.length) (e : S[k] = S[k - 1]) : ddR (S.take (k + 1)) = ddR (S.take k) := by
  rw [List.take_succ_eq_append_getElem h, ddR_snoc]
  have h1 : S.take k = S.take (k - 1) ++ [S[k - 1]] := by
    have := List.take_succ_eq_append_getElem (l := S) (i := k - 1) (by omega)
    rwa [show k - 1 + 1 = k by omega] at this
  unfold ddRStep
  rw [if_pos]
  rw [h1, ddR_last, e]
theorem ddR_next {S : List (List V)} {k : Nat} (h0 : 0 < k) (h : k < S.length) (e : S[k] ≠ S[k - 1]) : ddR (S.take (k + 1)) = ddR (S.take k) ++ [S[k]] := by
  rw [List.take_succ_eq_append_getElem h, ddR_snoc]
  have h1 : S.take k = S.take (k - 1) ++ [S[k - 1]] := by
    have := List.take_succ_eq_append_getElem (l := S) (i := k - 1) (by omega)
    rwa [show k - 1 + 1 = k by omega] at this
  unfold ddRStep
  rw [if_neg]
  rw [h1, ddR_last]
  intro h2
  exact e (Option.some.inj h2).symm
theorem ddR_len (S : List (List V)) : (ddR S).length ≤ S.length := by
  have : ∀ (S acc : List (List V)), (S.foldl ddRStep acc).length ≤ acc.length + S.length := by
    intro S
    induction S with
    | nil => intro acc; simp
    | cons x t ih =>
      intro acc
      rw [List.foldl_cons]
      have h1 := ih (ddRStep acc x)
      have h2 : (ddRStep acc x).length ≤ acc.length + 1 := by unfold ddRStep; split <;> simp
      rw [List.length_cons]
      omega
  simpa [ddR] using this S []
theorem ddR_mem {S : List (List V)} {x : List V} (h : x ∈ ddR S) : x ∈ S := by rw [ddR_eq] at h; exact hdsR_mem h
theorem flat_succ {β : Type} {D : List (List V)} {k : Nat} (h : k < D.length) (f : List V → List β) : (D.take (k + 1)).flatMap f = (D.take k).flatMap f ++ f D[k] := by
  rw [List.take_succ_eq_append_getElem h, List.flatMap_append]
  simp
theorem both_eq (all : Bool) (a b : List (List V)) : bothR all a b = (ddR (canon a)).flatMap fun x => List.replicate (nBoth all (a.count x) (b.count x)) x := by rw [ddR_eq]; rfl
theorem minus_eq (all : Bool) (a b : List (List V)) : minusR all a b = (ddR (canon a)).flatMap fun x => List.replicate (nMinus all (a.count x) (b.count x)) x := by rw [ddR_eq]; rfl
theorem nBoth_le (all : Bool) (p q : Nat) : nBoth all p q ≤ p := by unfold nBoth; split <;> omega
theorem nMinus_le (all : Bool) (p q : Nat) (h : 0 < p) : nMinus all p q ≤ p := by unfold nMinus; split <;> (try split) <;> omega
/-- together they are no more than the rows of a -/
theorem hds_sum (f : List V → Nat) {S : List (List V)} (hs : S.Pairwise fun a b => leC cmpR a b = true) (hf : ∀ x ∈ S, f x ≤ S.count x) : ((ddR S).flatMap fun x => List.replicate (f x) x).length ≤ S.length := by
  have h1 := runs_rising (fun run => run) hs
  rw [List.map_id', runsOf_flat] at h1
  have h2 : ((ddR S).flatMap fun x => List.replicate (S.count x) x).length = S.length := by rw [ddR_eq, ← h1]
  rw [← h2]
  have h3 : ∀ D : List (List V), (∀ x ∈ D, f x ≤ S.count x) → (D.flatMap fun x => List.replicate (f x) x).length ≤ (D.flatMap fun x => List.replicate (S.count x) x).length := by
    intro D
    induction D with
    | nil => intro _; simp
    | cons x t ih =>
      intro h
      simp only [List.flatMap_cons, List.length_append, List.length_replicate]
      have := h x (List.mem_cons_self ..)
      have := ih fun y hy => h y (List.mem_cons_of_mem _ hy)
      omega
  exact h3 _ fun x hx => hf x (ddR_mem hx)
theorem flat_take_len {β : Type} (D : List (List V)) (f : List V → List β) (k : Nat) : ((D.take k).flatMap f).length ≤ (D.flatMap f).length := by
  conv => rhs; rw [← List.take_append_drop k D, List.flatMap_append]
  simp
end Go.Proofs.YtapnnheggjahlaaGreatDoor
