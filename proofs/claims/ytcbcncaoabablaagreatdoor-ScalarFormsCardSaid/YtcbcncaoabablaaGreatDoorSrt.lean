/-
  PLAIN MATHEMATICS of sorted lists of values: the order is a strict one and total; a sorted list of given values is one and only; each different value once.
-/
import Derived.Test.YtcbcncaoabablaaGreatDoorGA12
import Derived.Sort.LotA
namespace Go.Proofs.YtcbcncaoabablaaGreatDoor
open Go.RowKit Go.Sort

theorem cb_self : ∀ a : List UInt8, Lib.compareBytes a a = 0
  | [] => rfl
  | x :: a => by simp [Lib.compareBytes, cb_self a]
theorem cb_eq : ∀ a b : List UInt8, Lib.compareBytes a b = 0 → a = b
  | [], [], _ => rfl
  | [], _ :: _, h => by simp [Lib.compareBytes] at h
  | _ :: _, [], h => by simp [Lib.compareBytes] at h
  | x :: a, y :: b, h => by
    unfold Lib.compareBytes at h
    split at h
    · cases h
    · split at h
      · cases h
      · rename_i h1 h2
        rw [UInt8.lt_iff_toNat_lt] at h1 h2
        have e : x = y := UInt8.toNat_inj.1 (by omega)
        rw [e, cb_eq a b h]
theorem cb_rev : ∀ a b : List UInt8, Lib.compareBytes b a = -Lib.compareBytes a b
  | [], [] => rfl
  | [], _ :: _ => rfl
  | _ :: _, [] => rfl
  | x :: a, y :: b => by
    unfold Lib.compareBytes
    by_cases h1 : x < y
    · have h2 : ¬ y < x := fun h => by rw [UInt8.lt_iff_toNat_lt] at h h1; omega
      rw [if_pos h1, if_neg h2, if_pos h1]; rfl
    · by_cases h2 : y < x
      · rw [if_pos h2, if_neg h1, if_pos h2]
      · rw [if_neg h2, if_neg h1, if_neg h1, if_neg h2, cb_rev a b]
theorem cb_trans : ∀ a b c : List UInt8, Lib.compareBytes a b < 0 → Lib.compareBytes b c < 0 → Lib.compareBytes a c < 0
  | [], _, [], h1, h2 => by
    rename_i b
    cases b <;> simp [Lib.compareBytes] at h1 h2
  | [], _, _ :: _, _, _ => by simp [Lib.compareBytes]
  | _ :: _, [], _, h1, _ => by simp [Lib.compareBytes] at h1
  | _ :: _, _ :: _, [], _, h2 => by simp [Lib.compareBytes] at h2
  | x :: a, y :: b, z :: c, h1, h2 => by
    unfold Lib.compareBytes at h1 h2 ⊢
    simp only [UInt8.lt_iff_toNat_lt] at h1 h2 ⊢
    by_cases hxy : x.toNat < y.toNat
    · by_cases hyz : y.toNat < z.toNat
      · rw [if_pos (by omega)]; decide
      · rw [if_neg hyz] at h2
        by_cases hzy : z.toNat < y.toNat
        · rw [if_pos hzy] at h2; omega
        · rw [if_pos (by omega)]; decide
    · rw [if_neg hxy] at h1
      by_cases hyx : y.toNat < x.toNat
      · rw [if_pos hyx] at h1; omega
      · rw [if_neg hyx] at h1
        by_cases hyz : y.toNat < z.toNat
        · rw [if_pos (by omega)]; decide
        · rw [if_neg hyz] at h2
          by_cases hzy : z.toNat < y.toNat
          · rw [if_pos hzy] at h2; omega
          · rw [if_neg hzy] at h2
            rw [if_neg (by omega), if_neg (by omega)]
            exact cb_trans a b c h1 h2

theorem cmpI_cases (a b : Int) : (a < b ∧ cmpI a b = -1) ∨ (b < a ∧ cmpI a b = 1) ∨ (a = b ∧ cmpI a b = 0) := by
  rcases Int.lt_trichotomy a b with h | h | h
  · exact .inl ⟨h, cmpI_lt h⟩
  · exact .inr (.inr ⟨h, cmpI_eq h⟩)
  · exact .inr (.inl ⟨h, cmpI_gt h⟩)
/-- the order of values -/
def cmpW (x y : V) : Int := cmpV x.k x.n x.s y.k y.n y.s
theorem cmpW_self (x : V) : cmpW x x = 0 := by
  unfold cmpW cmpV
  rw [if_pos rfl, if_pos rfl, cb_self]
theorem cmpW_eq {x y : V} (h : cmpW x y = 0) : x = y := by
  obtain ⟨k, n, s⟩ := x
  obtain ⟨k', n', s'⟩ := y
  unfold cmpW cmpV at h
  split at h
  · split at h
    · have e := cb_eq _ _ h
      have e2 : s = s' := ByteArray.ext (Array.toList_inj.1 e)
      rename_i h1 h2
      have h1 : k = k' := h1
      have h2 : n = n' := h2
      rw [h1, h2, e2]
    · rename_i h1
      have h1 : ¬ n = n' := h1
      have := cmpI_cases n n'
      have h : cmpI n n' = 0 := h
      omega
  · rename_i h1
    have h1 : ¬ k = k' := h1
    have := cmpI_cases k k'
    have h : cmpI k k' = 0 := h
    omega
theorem cmpW_rev (x y : V) : cmpW y x = -cmpW x y := by
  unfold cmpW cmpV
  by_cases h1 : x.k = y.k
  · rw [if_pos h1, if_pos h1.symm]
    by_cases h2 : x.n = y.n
    · rw [if_pos h2, if_pos h2.symm, cb_rev]
    · rw [if_neg h2, if_neg (fun e => h2 e.symm)]
      have := cmpI_cases x.n y.n
      have := cmpI_cases y.n x.n
      omega
  · rw [if_neg h1, if_neg (fun e => h1 e.symm)]
    have := cmpI_cases x.k y.k
    have := cmpI_cases y.k x.k
    omega
theorem cmpW_lt {x y z : V} (h1 : cmpW x y < 0) (h2 : cmpW y z < 0) : cmpW x z < 0 := by
  unfold cmpW cmpV at *
  have k1 := cmpI_cases x.k y.k
  have k2 := cmpI_cases y.k z.k
  have k3 := cmpI_cases x.k z.k
  have n1 := cmpI_cases x.n y.n
  have n2 := cmpI_cases y.n z.n
  have n3 := cmpI_cases x.n z.n
  by_cases a1 : x.k = y.k
  · rw [if_pos a1] at h1
    by_cases a2 : y.k = z.k
    · rw [if_pos a2] at h2
      rw [if_pos (a1.trans a2)]
      by_cases b1 : x.n = y.n
      · rw [if_pos b1] at h1
        by_cases b2 : y.n = z.n
        · rw [if_pos b2] at h2
          rw [if_pos (b1.trans b2)]
          exact cb_trans _ _ _ h1 h2
        · rw [if_neg b2] at h2
          rw [if_neg (by omega)]
          omega
      · rw [if_neg b1] at h1
        by_cases b2 : y.n = z.n
        · rw [if_neg (by omega)]
          omega
        · rw [if_neg b2] at h2
          rw [if_neg (by omega)]
          omega
    · rw [if_neg a2] at h2
      rw [if_neg (by omega)]
      omega
  · rw [if_neg a1] at h1
    by_cases a2 : y.k = z.k
    · rw [if_neg (by omega)]
      omega
    · rw [if_neg a2] at h2
      rw [if_neg (by omega)]
      omega
theorem cmpW_le {x y z : V} (h1 : cmpW x y ≤ 0) (h2 : cmpW y z ≤ 0) : cmpW x z ≤ 0 := by
  by_cases e1 : cmpW x y = 0
  · rw [cmpW_eq e1]; exact h2
  · by_cases e2 : cmpW y z = 0
    · rw [← cmpW_eq e2]; exact h1
    · have := cmpW_lt (x := x) (y := y) (z := z) (by omega) (by omega)
      omega
/-- not behind -/
def leV (x y : V) : Bool := decide (cmpW x y ≤ 0)
theorem leV_iff {x y : V} : leV x y = true ↔ cmpW x y ≤ 0 := by unfold leV; exact decide_eq_true_iff
/-- the values, rising -/
def srt (l : List V) : List V := l.mergeSort leV
theorem leV_trans (a b c : V) (h1 : leV a b = true) (h2 : leV b c = true) : leV a c = true := leV_iff.2 (cmpW_le (leV_iff.1 h1) (leV_iff.1 h2))
theorem leV_total (a b : V) : (leV a b || leV b a) = true := by
  rw [Bool.or_eq_true, leV_iff, leV_iff]
  have := cmpW_rev a b
  omega
theorem srt_perm (l : List V) : (srt l).Perm l := List.mergeSort_perm _ _
theorem srt_rises (l : List V) : (srt l).Pairwise fun x y => leV x y = true := List.pairwise_mergeSort leV_trans leV_total l
/-- A RISING LIST OF GIVEN VALUES IS ONE AND ONLY -/
theorem srt_only {l out : List V} (hp : out.Perm l) (hs : out.Pairwise fun x y => leV x y = true) : out = srt l := by
  refine List.Perm.eq_of_pairwise (le := fun x y => leV x y = true) ?_ hs (srt_rises l) (hp.trans (srt_perm l).symm)
  intro a b _ _ h1 h2
  rw [leV_iff] at h1 h2
  have := cmpW_rev a b
  exact cmpW_eq (by omega)
theorem srt_merge (l r : List V) : List.merge (srt l) (srt r) leV = srt (l ++ r) := by
  refine srt_only ((List.merge_perm_append leV).trans ((srt_perm l).append (srt_perm r))) ?_
  exact List.pairwise_merge leV_trans leV_total _ _ (srt_rises l) (srt_rises r)
theorem srt_short {l : List V} (h : l.length < 2) : srt l = l := by
  refine (srt_only (List.Perm.refl l) ?_).symm
  match l, h with
  | [], _ => exact .nil
  | [x], _ => exact List.pairwise_singleton _ _
  | _ :: _ :: t, h => exact absurd h (by simp)
theorem srt_len (l : List V) : (srt l).length = l.length := (srt_perm l).length_eq
theorem srt_mem {l : List V} {x : V} (h : x ∈ srt l) : x ∈ l := (srt_perm l).mem_iff.1 h

instance : DecidableEq V := fun x y => if h : veq x.k x.n x.s y.k y.n y.s = true then .isTrue (veq_iff.1 h) else .isFalse fun e => h (by subst e; exact veq_self _ _ _)
/-- a value is set behind, if it is not the last one already -/
def ddStep (l : List V) (x : V) : List V := if l.getLast? = some x then l else l ++ [x]
/-- of each run of equal values the first one -/
def dd (l : List V) : List V := l.foldl ddStep []
theorem ddStep_last (l : List V) (x : V) : (ddStep l x).getLast? = some x := by
  unfold ddStep
  split
  · assumption
  · simp
theorem dd_snoc (l : List V) (x : V) : dd (l ++ [x]) = ddStep (dd l) x := by
  unfold dd
  rw [List.foldl_append]; rfl
theorem dd_last (l : List V) (x : V) : (dd (l ++ [x])).getLast? = some x := by
  rw [dd_snoc]; exact ddStep_last _ _
theorem ddStep_len (l : List V) (x : V) : (ddStep l x).length ≤ l.length + 1 := by
  unfold ddStep
  split <;> simp
theorem dd_take {l : List V} {k : Nat} (h : k < l.length) : dd (l.take (k + 1)) = ddStep (dd (l.take k)) l[k] := by
  rw [List.take_succ_eq_append_getElem h, dd_snoc]
theorem dd_take_len (l : List V) : ∀ k, k ≤ l.length → (dd (l.take k)).length ≤ k
  | 0, _ => by simp [dd]
  | k + 1, h => by
    rw [dd_take (by omega)]
    have h1 := ddStep_len (dd (l.take k)) l[k]
    have h2 := dd_take_len l k (by omega)
    omega
theorem dd_take_pos {l : List V} {k : Nat} (h : k < l.length) : 0 < (dd (l.take (k + 1))).length := by
  have h1 := dd_last (l.take k) l[k]
  rw [← List.take_succ_eq_append_getElem h] at h1
  cases hd : dd (l.take (k + 1)) with
  | nil => rw [hd] at h1; cases h1
  | cons x r => simp
/-- the last one that was kept is the one before -/
theorem dd_prev {l : List V} {k : Nat} (h : k < l.length) : (dd (l.take (k + 1))).getLast? = some l[k] := by
  rw [List.take_succ_eq_append_getElem h]; exact dd_last _ _
end Go.Proofs.YtcbcncaoabablaaGreatDoor
