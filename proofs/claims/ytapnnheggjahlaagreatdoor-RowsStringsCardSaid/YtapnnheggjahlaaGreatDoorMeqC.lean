/-
  TWO MAPS THAT COUNT ROWS ARE EQUAL JUST IF THE ROWS ARE ONE BAG; the library's maps.Equal says so.
-/
import Derived.Test.YtapnnheggjahlaaGreatDoorMeq
import Derived.Test.YtapnnheggjahlaaGreatDoorTms
namespace Go.Proofs.YtapnnheggjahlaaGreatDoor
open Go.RowKit Go.Shelf Go.Maps

theorem atKey_none {D : DataW Unit} (hD : IsMap D) {k : Lit} (h : has D k = false) (z : DataW Unit) : D.atKey k z = z := by
  obtain ⟨es, rfl⟩ := hD
  have h : es.any (fun p => p.1.sameKey k) = false := h
  have hf : es.find? (fun p => p.1.sameKey k) = none := List.find?_eq_none.2 fun p hp => by
    have := List.any_eq_false.1 h p hp
    simpa using this
  simp only [DataW.atKey, hf]
/-- what a map of counts holds -/
structure CD (D : DataW Unit) (L : List (List V)) : Prop where
  at_ : ∀ key, D.atKey (.string key) (.lit (.int .i64 0)) = .lit (.int .i64 (cnt key L))
  only : ∀ k, has D k = true → ∃ key, k = .string key ∧ 0 < cnt key L
  es : ∃ es, D = .map es ∧ es.Pairwise (fun p q => p.1 ≠ q.1) ∧ ∀ p ∈ es, WideAt.IsKeyLit p.1
theorem CD.has {D : DataW Unit} {L : List (List V)} (h : CD D L) {key : List UInt8} (hc : 0 < cnt key L) : has D (.string key) = true := by
  cases e : Maps.has D (.string key) with
  | true => rfl
  | false =>
    obtain ⟨es, he, -⟩ := h.es
    have h1 := h.at_ key
    rw [atKey_none ⟨es, he⟩ e] at h1
    injection h1 with h1
    injection h1 with _ h1
    omega
theorem has_mem {es : List (Lit × DataW Unit)} (hk : ∀ p ∈ es, WideAt.IsKeyLit p.1) (k : Lit) : Maps.has (.map es) k = true ↔ k ∈ es.map (·.1) := by
  rw [has_eq, List.any_eq_true, List.mem_map]
  constructor
  · rintro ⟨p, hp, hs⟩
    exact ⟨p, hp, WideAt.sameKey_eq hs⟩
  · rintro ⟨p, hp, rfl⟩
    exact ⟨p, hp, WideAt.sameKey_self (hk p hp)⟩
/-- two elements, as they read: the same number? -/
def sameI : DataW Unit → DataW Unit → Bool
  | .lit (.int _ x), .lit (.int _ y) => x == y
  | _, _ => false
theorem equal_counts {D1 D2 : DataW Unit} {a b : List (List V)} (h1 : CD D1 a) (h2 : CD D2 b) : Lib.equalFuncD sameI D1 D2 = true ↔ ∀ key, cnt key a = cnt key b := by
  obtain ⟨es1, rfl, p1, k1⟩ := h1.es
  obtain ⟨es2, rfl, p2, k2⟩ := h2.es
  have n1 : (es1.map (·.1)).Nodup := List.pairwise_map.2 p1
  have n2 : (es2.map (·.1)).Nodup := List.pairwise_map.2 p2
  have v1 : ∀ p ∈ es1, ∀ key, p.1 = .string key → p.2 = .lit (.int .i64 (cnt key a)) := fun p hp key e => by
    rw [← h1.at_ key, ← e]
    exact (WideAt.atKey_mem _ (k1 p hp) p1 hp).symm
  have v2 : ∀ key, Maps.has (.map es2) (.string key) = true → (DataW.map es2).atKey (.string key) .nil = .lit (.int .i64 (cnt key b)) := fun key h => by
    rw [← h2.at_ key]
    exact atKey_indep h _ _
  unfold Lib.equalFuncD
  rw [Bool.and_eq_true, decide_eq_true_iff]
  constructor
  · rintro ⟨hs, ha⟩ key
    have ha := List.all_eq_true.1 ha
    have sub : ∀ k ∈ es1.map (·.1), k ∈ es2.map (·.1) := fun k hk => by
      obtain ⟨p, hp, rfl⟩ := List.mem_map.1 hk
      have := ha p hp
      unfold Lib.goodD at this
      rw [Bool.and_eq_true] at this
      exact (has_mem k2 _).1 this.1
    by_cases hc : 0 < cnt key a
    · obtain ⟨p, hp, e⟩ := List.mem_map.1 ((has_mem k1 _).1 (h1.has hc))
      have := ha p hp
      unfold Lib.goodD at this
      rw [Bool.and_eq_true] at this
      obtain ⟨g1, g2⟩ := this
      have e : p.1 = .string key := e
      rw [e] at g1
      rw [v1 p hp key e, e, v2 key g1] at g2
      have : ((cnt key a : Nat) : Int) = (cnt key b : Nat) := by simpa [sameI] using g2
      omega
    · by_cases hb : 0 < cnt key b
      · exfalso
        have m2 : (Lit.string key) ∈ es2.map (·.1) := (has_mem k2 _).1 (h2.has hb)
        have m1 : (Lit.string key) ∉ es1.map (·.1) := fun hm => by
          obtain ⟨key', e, hc'⟩ := h1.only _ ((has_mem k1 _).2 hm)
          injection e with e
          subst e
          exact hc hc'
        have := (List.nodup_cons.2 ⟨m1, n1⟩).length_le_of_subset (l₂ := es2.map (·.1)) fun k hk => by
          rcases List.mem_cons.1 hk with rfl | hk
          · exact m2
          · exact sub k hk
        have hs : es1.length = es2.length := hs
        simp only [List.length_cons, List.length_map] at this
        omega
      · omega
  · intro h
    have mem : ∀ k, k ∈ es1.map (·.1) ↔ k ∈ es2.map (·.1) := fun k => by
      rw [← has_mem k1, ← has_mem k2]
      constructor
      · intro hk
        obtain ⟨key, rfl, hc⟩ := h1.only k hk
        exact h2.has (by rw [← h key]; exact hc)
      · intro hk
        obtain ⟨key, rfl, hc⟩ := h2.only k hk
        exact h1.has (by rw [h key]; exact hc)
    refine ⟨?_, List.all_eq_true.2 fun p hp => ?_⟩
    · have := ((List.perm_ext_iff_of_nodup n1 n2).2 mem).length_eq
      show es1.length = es2.length
      simpa using this
    · have hm : p.1 ∈ es1.map (·.1) := List.mem_map.2 ⟨p, hp, rfl⟩
      obtain ⟨key, e, hc⟩ := h1.only _ ((has_mem k1 _).2 hm)
      have g1 : Maps.has (.map es2) (.string key) = true := h2.has (by rw [← h key]; exact hc)
      unfold Lib.goodD
      rw [Bool.and_eq_true, e, v1 p hp key e, v2 key g1]
      refine ⟨g1, ?_⟩
      simp [sameI, h key]
theorem CMap.cd {w : World} {b n : Nat} {L : List (List V)} (h : CMap w b n L) : ∃ D, w.ownsMap Tryz.prog 9 (plainElem Tryz.prog 3) b n D ∧ CD D L := by
  obtain ⟨D, h1, h2, h3⟩ := h
  exact ⟨D, h1, h2, h3, h1.entries (Maps.string_keyed Tryz.underlying9)⟩
theorem canon_perm {a b : List (List V)} : canon a = canon b ↔ a.Perm b :=
  ⟨fun h => by
    have h1 := srtC_perm (c := cmpR) a
    have h : srtC cmpR a = srtC cmpR b := h
    rw [h] at h1
    exact h1.symm.trans (srtC_perm b), fun h => srtC_only cmpR_WO cmpR_eq ((srtC_perm a).trans h) (srtC_rises cmpR_WO a)⟩
theorem counts_same {a b : List (List V)} (ha : FineL a) (hb : FineL b) : (∀ key, cnt key a = cnt key b) ↔ canon a = canon b := by
  rw [canon_perm]
  constructor
  · intro h
    rw [List.perm_iff_count]
    intro x
    by_cases hx : ∀ v ∈ x, v.fine
    · have := h (rowS x)
      rwa [cnt_count hx ha, cnt_count hx hb] at this
    · rw [List.count_eq_zero_of_not_mem fun hm => hx (ha x hm).2, List.count_eq_zero_of_not_mem fun hm => hx (hb x hm).2]
  · intro h key
    exact (h.filter _).length_eq
theorem neq_int {e : TypeId} (he : Tryz.prog.underlying e = some (.int .i64)) (W : World) (x y : Value) (xd yd : DataW Unit) (xp yp : List MemPlace) (hx : plainElem Tryz.prog e x = some (xd, xp)) (hy : plainElem Tryz.prog e y = some (yd, yp)) :
    (binOp .neq e x y).run Tryz.prog W = .ok (.bool (!sameI xd yd)) W ∧ ∀ (a b : Operand), (eqGuard .neq e a b x y).run Tryz.prog W = .ok () W := by
  obtain ⟨a, rfl, h1, _⟩ := plainElem_int_inv he hx
  obtain ⟨b, rfl, h2, _⟩ := plainElem_int_inv he hy
  obtain rfl : xd = .lit (.int .i64 a) := by simpa using (congrArg Prod.fst h1)
  obtain rfl : yd = .lit (.int .i64 b) := by simpa using (congrArg Prod.fst h2)
  refine ⟨?_, fun _ _ => by rw [eqGuard_at_int]; rfl⟩
  simp [go_sem, sameI, binOp]
  rfl
theorem mapsEqual_any (b1 b2 n1 n2 : Nat) (a b : List (List V)) (w : World) (h1 : CMap w b1 n1 a) (h2 : CMap w b2 n2 b) (ha : FineL a) (hb : FineL b) :
    Calls Tryz.prog 64 #[.map (some b1), .map (some b2)] w fun e w' => e = .returned (.bool (decide (canon a = canon b))) ∧ Below w.heap.size w w' := by
  obtain ⟨D1, o1, c1⟩ := h1.cd
  obtain ⟨D2, o2, c2⟩ := h2.cd
  have hcon : Calls Tryz.prog 64 #[.map (some b1), .map (some b2)] w (fun e w' => e = .returned (.bool (Lib.equalFuncD sameI D1 D2)) ∧ w.grownBy w' none) :=
    AnyEq.maps_Equal_opt Tryz.mapEq (Maps.string_keyed Tryz.underlying9) (plainElem Tryz.prog 3) (plainElem Tryz.prog 3) sameI (some b1) (some b2) D1 D2 w (.inr ⟨b1, n1, rfl, o1⟩) (.inr ⟨b2, n2, rfl, o2⟩) (.int .i64 0) Tryz.zeroValue3 (.lit (.int .i64 0)) [] (plainElem_int Tryz.underlying3 (by decide)) (neq_int Tryz.underlying3)
  refine hcon.mono fun e w' ⟨h, hg⟩ => ⟨?_, (Below.refl _ w).grown hg (Nat.le_refl _) (fun j hj => by cases hj)⟩
  rw [h]
  have : Lib.equalFuncD sameI D1 D2 = decide (canon a = canon b) := by
    rw [Bool.eq_iff_iff, equal_counts c1 c2, decide_eq_true_iff]
    exact counts_same ha hb
  rw [this]
end Go.Proofs.YtapnnheggjahlaaGreatDoor
