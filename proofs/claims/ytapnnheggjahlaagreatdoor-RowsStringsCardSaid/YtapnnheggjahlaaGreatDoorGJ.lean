/-
  RefC: CONTRACT of the reference: Compare.
  Srt: PLAIN MATHEMATICS of sorted lists of values: the order is a strict one and total; a sorted list of given values is one and only; each different value once.
  RwM: PLAIN MATHEMATICS of rows: their order, the one sorted list, its runs, bags and sets. No program stands in it.
  Lay: CONTRACTS of the comparison of values, and of rows: what they make lies behind all that was there, and draws only add up (what the library's sort asks).
-/
import Derived.Test.YtapnnheggjahlaaGreatDoorGB
import Derived.Test.YtapnnheggjahlaaGreatDoorGC
import Derived.Sort.LotA
import Derived.Sort.Grow
namespace Go.Proofs.YtapnnheggjahlaaGreatDoor
open Go.RowKit

/-- equal beginnings are passed over -/
theorem cmpB_drop : ∀ (i : Nat) (a b : List UInt8), a.take i = b.take i → i ≤ a.length → i ≤ b.length → Lib.compareBytes a b = Lib.compareBytes (a.drop i) (b.drop i)
  | 0, a, b, _, _, _ => rfl
  | i + 1, [], b, _, h, _ => by simp at h
  | i + 1, _ :: _, [], _, _, h => by simp at h
  | i + 1, x :: a, y :: b, h, ha, hb => by
    simp only [List.take_succ_cons, List.cons.injEq] at h
    obtain ⟨rfl, ht⟩ := h
    have := cmpB_drop i a b ht (by simpa using ha) (by simpa using hb)
    simp only [Lib.compareBytes, List.drop_succ_cons, if_neg (UInt8.lt_irrefl x)]
    exact this
theorem cmpB_at {s s' : ByteArray} {i : Nat} (h : i < s.size) (h' : i < s'.size) (ht : s.data.toList.take i = s'.data.toList.take i) :
    (s[i] < s'[i] → Lib.compareBytes s.data.toList s'.data.toList = -1) ∧ (s'[i] < s[i] → Lib.compareBytes s.data.toList s'.data.toList = 1) := by
  have l1 : i < s.data.toList.length := by simpa using h
  have l2 : i < s'.data.toList.length := by simpa using h'
  rw [cmpB_drop i _ _ ht (by omega) (by omega), List.drop_eq_getElem_cons l1, List.drop_eq_getElem_cons l2]
  have e1 : s.data.toList[i] = s[i] := rfl
  have e2 : s'.data.toList[i] = s'[i] := rfl
  rw [e1, e2]
  refine ⟨fun hl => by simp [Lib.compareBytes, hl], fun hl => ?_⟩
  have : ¬ s[i] < s'[i] := fun hh => UInt8.lt_irrefl _ (UInt8.lt_trans hl hh)
  simp [Lib.compareBytes, hl, this]
theorem cmpB_end {s s' : ByteArray} {i : Nat} (h : i ≤ s.size) (h' : i ≤ s'.size) (ht : s.data.toList.take i = s'.data.toList.take i) (hm : i = s.size ∨ i = s'.size) :
    Lib.compareBytes s.data.toList s'.data.toList = if s.size = s'.size then 0 else if s.size < s'.size then -1 else 1 := by
  have l1 : i ≤ s.data.toList.length := by simpa using h
  have l2 : i ≤ s'.data.toList.length := by simpa using h'
  have e1 : s.data.toList.length = s.size := by simp
  have e2 : s'.data.toList.length = s'.size := by simp
  rw [cmpB_drop i _ _ ht l1 l2]
  cases ha : s.data.toList.drop i with
  | nil =>
    have ha' : s.data.toList.length ≤ i := by simpa using ha
    cases hb : s'.data.toList.drop i with
    | nil =>
      have hb' : s'.data.toList.length ≤ i := by simpa using hb
      rw [if_pos (by omega)]; rfl
    | cons y b =>
      have hb' : ¬ s'.data.toList.length ≤ i := fun hh => by rw [List.drop_eq_nil_of_le hh] at hb; cases hb
      rw [if_neg (by omega), if_pos (by omega)]; rfl
  | cons x a =>
    have ha' : ¬ s.data.toList.length ≤ i := fun hh => by rw [List.drop_eq_nil_of_le hh] at ha; cases ha
    cases hb : s'.data.toList.drop i with
    | nil =>
      have hb' : s'.data.toList.length ≤ i := by simpa using hb
      rw [if_neg (by omega), if_neg (by omega)]; rfl
    | cons y b =>
      have hb' : ¬ s'.data.toList.length ≤ i := fun hh => by rw [List.drop_eq_nil_of_le hh] at hb; cases hb
      omega

set_option maxHeartbeats 800000 in
theorem rCompare_any (k n : Int) (s : ByteArray) (k' n' : Int) (s' : ByteArray) (w : World) (hs : s.size ≤ maxLen) (hs' : s'.size ≤ maxLen) :
    Calls Tryz.prog 63 #[.agg #[.int .i64 k, .int .i64 n, .string s], .agg #[.int .i64 k', .int .i64 n', .string s']] w fun e w' => e = .returned (.int .i64 (cmpV k n s k' n' s')) ∧ Below w.heap.size w w' := by
  have hs := Nat.le_trans hs (Nat.le_refl _)
  have hs' := Nat.le_trans hs' (Nat.le_refl _)
  unfold maxLen at hs hs'
  by_cases hk : k = k'
  · by_cases hn : n = n'
    · have HR : Hid (cmpV k n s k' n' s' = Lib.compareBytes s.data.toList s'.data.toList) := by show cmpV k n s k' n' s' = _; unfold cmpV; rw [if_pos hk, if_pos hn]
      have e1 : (k != k') = false := by simp [hk]
      have e2 : (n != n') = false := by simp [hn]
      clear hk hn
      go_enter Tryz.func63, Tryz.ntmps63
      go_wp2_with fail
      go_loopw [5] (fun i wr => ∃ j : Nat, j ≤ s.size ∧ j ≤ s'.size ∧ i = .int .i64 j ∧ Hid (s.data.toList.take j = s'.data.toList.take j) ∧ Hid (Below w.heap.size w wr) ∧ Blk wr w.heap.size 78 #[.int .i64 k, .int .i64 n, .string s] ∧ Blk wr (w.heap.size + 1) 78 #[.int .i64 k', .int .i64 n', .string s']) (fun i _ => s.size - (intOf i).toNat)
      case atStart => exact ⟨0, Nat.zero_le _, Nat.zero_le _, rfl, rfl, al (al (Below.refl _ _) _) _, (Blk.new' rfl).alloc _, Blk.new' (by simp)⟩
      case round =>
        obtain ⟨j, hj, hj', rfl, HT, HB, B1, B2⟩ := hrel
        obtain ⟨⟨a0, a1, a2⟩, ax⟩ := B1.three
        obtain ⟨⟨b0, b1, b2⟩, bx⟩ := B2.three
        clear ax bx
        have hj0 : (0 : Int) ≤ (j : Int) := by omega
        by_cases h1 : j < s.size
        · by_cases h2 : j < s'.size
          · have h1i : (j : Int) < (s.size : Int) := by omega
            have h2i : (j : Int) < (s'.size : Int) := by omega
            by_cases he : s[j] = s'[j]
            · have ee : ((s[j].toNat : Int) != (s'[j].toNat : Int)) = false := by simp [he]
              have HN : Hid (s.data.toList.take (j + 1) = s'.data.toList.take (j + 1)) := by
                show _ = _
                rw [take_snoc s j h1, take_snoc s' j h2, HT.out, he]
              clear he
              go_wp2_with fail
              go_quiet (fail)
              go_wp2_with fail
              go_roundw
              case rel => exact ⟨j + 1, by omega, by omega, by go_num, HN, below_drewN HB.out _, B1.drewN _, B2.drewN _⟩
              case measure => simp [intOf]; omega
            · have hne : s[j].toNat ≠ s'[j].toNat := fun hh => he (UInt8.toNat_inj.1 hh)
              have ee : ((s[j].toNat : Int) != (s'[j].toNat : Int)) = true := by simp; omega
              by_cases hl : s[j].toNat < s'[j].toNat
              · have HL : Hid (Lib.compareBytes s.data.toList s'.data.toList = -1) := (cmpB_at h1 h2 HT.out).1 (UInt8.lt_iff_toNat_lt.2 hl)
                have hli : (s[j].toNat : Int) < (s'[j].toNat : Int) := by omega
                clear he hne hl
                go_wp2_with fail
                go_quiet (fail)
                go_wp2_with fail
                go_quiet (fail)
                go_wp2_with fail
                go_ret
                exact ⟨ret_int (by rw [HR.out, HL.out]), below_drewN (below_drewN HB.out _) _⟩
              · have HL : Hid (Lib.compareBytes s.data.toList s'.data.toList = 1) := (cmpB_at h1 h2 HT.out).2 (UInt8.lt_iff_toNat_lt.2 (by omega))
                have hli : ¬ (s[j].toNat : Int) < (s'[j].toNat : Int) := by omega
                clear he hne hl
                go_wp2_with fail
                go_quiet (fail)
                go_wp2_with fail
                go_quiet (fail)
                go_wp2_with fail
                go_ret
                exact ⟨ret_int (by rw [HR.out, HL.out]), below_drewN (below_drewN HB.out _) _⟩
          · have HE : Hid (Lib.compareBytes s.data.toList s'.data.toList = 1) := by
              show _ = _
              rw [cmpB_end hj hj' HT.out (.inr (by omega)), if_neg (by omega), if_neg (by omega)]
            have ne : ((s.size : Int) != (s'.size : Int)) = true := by simp; omega
            have nl : ¬ (s.size : Int) < (s'.size : Int) := by omega
            go_wp2_with fail
            go_ret
            exact ⟨ret_int (by rw [HR.out, HE.out]), HB.out⟩
        · by_cases h3 : s.size = s'.size
          · have HE : Hid (Lib.compareBytes s.data.toList s'.data.toList = 0) := by
              show _ = _
              rw [cmpB_end hj hj' HT.out (.inl (by omega)), if_pos h3]
            have ne : ((s.size : Int) != (s'.size : Int)) = false := by simp; omega
            go_wp2_with fail
            go_ret
            exact ⟨ret_int (by rw [HR.out, HE.out]), HB.out⟩
          · have HE : Hid (Lib.compareBytes s.data.toList s'.data.toList = -1) := by
              show _ = _
              rw [cmpB_end hj hj' HT.out (.inl (by omega)), if_neg h3, if_pos (by omega)]
            have ne : ((s.size : Int) != (s'.size : Int)) = true := by simp; omega
            have nl : (s.size : Int) < (s'.size : Int) := by omega
            go_wp2_with fail
            go_ret
            exact ⟨ret_int (by rw [HR.out, HE.out]), HB.out⟩
    · have e1 : (k != k') = false := by simp [hk]
      have e2 : (n != n') = true := by simp [hn]
      by_cases hl : n < n'
      · have HR : Hid (cmpV k n s k' n' s' = -1) := by show _ = _; unfold cmpV; rw [if_pos hk, if_neg hn, cmpI_lt hl]
        clear hk hn
        go_enter Tryz.func63, Tryz.ntmps63
        go_wp2_with fail
        go_ret
        exact ⟨ret_int HR.out.symm, al (al (Below.refl _ _) _) _⟩
      · have HR : Hid (cmpV k n s k' n' s' = 1) := by show _ = _; unfold cmpV; rw [if_pos hk, if_neg hn, cmpI_gt (by omega)]
        clear hk hn
        go_enter Tryz.func63, Tryz.ntmps63
        go_wp2_with fail
        go_ret
        exact ⟨ret_int HR.out.symm, al (al (Below.refl _ _) _) _⟩
  · have e1 : (k != k') = true := by simp [hk]
    by_cases hl : k < k'
    · have HR : Hid (cmpV k n s k' n' s' = -1) := by show _ = _; unfold cmpV; rw [if_neg hk, cmpI_lt hl]
      clear hk
      go_enter Tryz.func63, Tryz.ntmps63
      go_wp2_with fail
      go_ret
      exact ⟨ret_int HR.out.symm, al (al (Below.refl _ _) _) _⟩
    · have HR : Hid (cmpV k n s k' n' s' = 1) := by show _ = _; unfold cmpV; rw [if_neg hk, cmpI_gt (by omega)]
      clear hk
      go_enter Tryz.func63, Tryz.ntmps63
      go_wp2_with fail
      go_ret
      exact ⟨ret_int HR.out.symm, al (al (Below.refl _ _) _) _⟩
end Go.Proofs.YtapnnheggjahlaaGreatDoor
namespace Go.Proofs.YtapnnheggjahlaaGreatDoor
open Go.RowKit Go.Sort

theorem cb_self : ∀ a : List UInt8, Lib.compareBytes a a = 0
  | [] => rfl
  | x :: a => by simp [Lib.compareBytes, cb_self a]
theorem cb_eq : ∀ a b : List UInt8, Lib.compareBytes a b = 0 → a = b
  | [], [], _ => rfl
  | [], _ :: _, h => by simp [Lib.compareBytes] at h
  | _ :: _, [], h => by simp [Lib.compareBytes] at h
  | x :: a, y :: b, h => by
    unfold Lib.compareBytes at h
    split at h
    · cases h
    · split at h
      · cases h
      · rename_i h1 h2
        rw [UInt8.lt_iff_toNat_lt] at h1 h2
        have e : x = y := UInt8.toNat_inj.1 (by omega)
        rw [e, cb_eq a b h]
theorem cb_rev : ∀ a b : List UInt8, Lib.compareBytes b a = -Lib.compareBytes a b
  | [], [] => rfl
  | [], _ :: _ => rfl
  | _ :: _, [] => rfl
  | x :: a, y :: b => by
    unfold Lib.compareBytes
    by_cases h1 : x < y
    · have h2 : ¬ y < x := fun h => by rw [UInt8.lt_iff_toNat_lt] at h h1; omega
      rw [if_pos h1, if_neg h2, if_pos h1]; rfl
    · by_cases h2 : y < x
      · rw [if_pos h2, if_neg h1, if_pos h2]
      · rw [if_neg h2, if_neg h1, if_neg h1, if_neg h2, cb_rev a b]
theorem cb_trans : ∀ a b c : List UInt8, Lib.compareBytes a b < 0 → Lib.compareBytes b c < 0 → Lib.compareBytes a c < 0
  | [], _, [], h1, h2 => by
    rename_i b
    cases b <;> simp [Lib.compareBytes] at h1 h2
  | [], _, _ :: _, _, _ => by simp [Lib.compareBytes]
  | _ :: _, [], _, h1, _ => by simp [Lib.compareBytes] at h1
  | _ :: _, _ :: _, [], _, h2 => by simp [Lib.compareBytes] at h2
  | x :: a, y :: b, z :: c, h1, h2 => by
    unfold Lib.compareBytes at h1 h2 ⊢
    simp only [UInt8.lt_iff_toNat_lt] at h1 h2 ⊢
    by_cases hxy : x.toNat < y.toNat
    · by_cases hyz : y.toNat < z.toNat
      · rw [if_pos (by omega)]; decide
      · rw [if_neg hyz] at h2
        by_cases hzy : z.toNat < y.toNat
        · rw [if_pos hzy] at h2; omega
        · rw [if_pos (by omega)]; decide
    · rw [if_neg hxy] at h1
      by_cases hyx : y.toNat < x.toNat
      · rw [if_pos hyx] at h1; omega
      · rw [if_neg hyx] at h1
        by_cases hyz : y.toNat < z.toNat
        · rw [if_pos (by omega)]; decide
        · rw [if_neg hyz] at h2
          by_cases hzy : z.toNat < y.toNat
          · rw [if_pos hzy] at h2; omega
          · rw [if_neg hzy] at h2
            rw [if_neg (by omega), if_neg (by omega)]
            exact cb_trans a b c h1 h2

theorem cmpI_cases (a b : Int) : (a < b ∧ cmpI a b = -1) ∨ (b < a ∧ cmpI a b = 1) ∨ (a = b ∧ cmpI a b = 0) := by
  rcases Int.lt_trichotomy a b with h | h | h
  · exact .inl ⟨h, cmpI_lt h⟩
  · exact .inr (.inr ⟨h, cmpI_eq h⟩)
  · exact .inr (.inl ⟨h, cmpI_gt h⟩)
/-- the order of values -/
def cmpW (x y : V) : Int := cmpV x.k x.n x.s y.k y.n y.s
theorem cmpW_self (x : V) : cmpW x x = 0 := by
  unfold cmpW cmpV
  rw [if_pos rfl, if_pos rfl, cb_self]
theorem cmpW_eq {x y : V} (h : cmpW x y = 0) : x = y := by
  obtain ⟨k, n, s⟩ := x
  obtain ⟨k', n', s'⟩ := y
  unfold cmpW cmpV at h
  split at h
  · split at h
    · have e := cb_eq _ _ h
      have e2 : s = s' := ByteArray.ext (Array.toList_inj.1 e)
      rename_i h1 h2
      have h1 : k = k' := h1
      have h2 : n = n' := h2
      rw [h1, h2, e2]
    · rename_i h1
      have h1 : ¬ n = n' := h1
      have := cmpI_cases n n'
      have h : cmpI n n' = 0 := h
      omega
  · rename_i h1
    have h1 : ¬ k = k' := h1
    have := cmpI_cases k k'
    have h : cmpI k k' = 0 := h
    omega
theorem cmpW_rev (x y : V) : cmpW y x = -cmpW x y := by
  unfold cmpW cmpV
  by_cases h1 : x.k = y.k
  · rw [if_pos h1, if_pos h1.symm]
    by_cases h2 : x.n = y.n
    · rw [if_pos h2, if_pos h2.symm, cb_rev]
    · rw [if_neg h2, if_neg (fun e => h2 e.symm)]
      have := cmpI_cases x.n y.n
      have := cmpI_cases y.n x.n
      omega
  · rw [if_neg h1, if_neg (fun e => h1 e.symm)]
    have := cmpI_cases x.k y.k
    have := cmpI_cases y.k x.k
    omega
theorem cmpW_lt {x y z : V} (h1 : cmpW x y < 0) (h2 : cmpW y z < 0) : cmpW x z < 0 := by
  unfold cmpW cmpV at *
  have k1 := cmpI_cases x.k y.k
  have k2 := cmpI_cases y.k z.k
  have k3 := cmpI_cases x.k z.k
  have n1 := cmpI_cases x.n y.n
  have n2 := cmpI_cases y.n z.n
  have n3 := cmpI_cases x.n z.n
  by_cases a1 : x.k = y.k
  · rw [if_pos a1] at h1
    by_cases a2 : y.k = z.k
    · rw [if_pos a2] at h2
      rw [if_pos (a1.trans a2)]
      by_cases b1 : x.n = y.n
      · rw [if_pos b1] at h1
        by_cases b2 : y.n = z.n
        · rw [if_pos b2] at h2
          rw [if_pos (b1.trans b2)]
          exact cb_trans _ _ _ h1 h2
        · rw [if_neg b2] at h2
          rw [if_neg (by omega)]
          omega
      · rw [if_neg b1] at h1
        by_cases b2 : y.n = z.n
        · rw [if_neg (by omega)]
          omega
        · rw [if_neg b2] at h2
          rw [if_neg (by omega)]
          omega
    · rw [if_neg a2] at h2
      rw [if_neg (by omega)]
      omega
  · rw [if_neg a1] at h1
    by_cases a2 : y.k = z.k
    · rw [if_neg (by omega)]
      omega
    · rw [if_neg a2] at h2
      rw [if_neg (by omega)]
      omega
theorem cmpW_le {x y z : V} (h1 : cmpW x y ≤ 0) (h2 : cmpW y z ≤ 0) : cmpW x z ≤ 0 := by
  by_cases e1 : cmpW x y = 0
  · rw [cmpW_eq e1]; exact h2
  · by_cases e2 : cmpW y z = 0
    · rw [← cmpW_eq e2]; exact h1
    · have := cmpW_lt (x := x) (y := y) (z := z) (by omega) (by omega)
      omega
/-- not behind -/
def leV (x y : V) : Bool := decide (cmpW x y ≤ 0)
theorem leV_iff {x y : V} : leV x y = true ↔ cmpW x y ≤ 0 := by unfold leV; exact decide_eq_true_iff
/-- the values, rising -/
def srt (l : List V) : List V := l.mergeSort leV
theorem leV_trans (a b c : V) (h1 : leV a b = true) (h2 : leV b c = true) : leV a c = true := leV_iff.2 (cmpW_le (leV_iff.1 h1) (leV_iff.1 h2))
theorem leV_total (a b : V) : (leV a b || leV b a) = true := by
  rw [Bool.or_eq_true, leV_iff, leV_iff]
  have := cmpW_rev a b
  omega
theorem srt_perm (l : List V) : (srt l).Perm l := List.mergeSort_perm _ _
theorem srt_rises (l : List V) : (srt l).Pairwise fun x y => leV x y = true := List.pairwise_mergeSort leV_trans leV_total l
/-- A RISING LIST OF GIVEN VALUES IS ONE AND ONLY -/
theorem srt_only {l out : List V} (hp : out.Perm l) (hs : out.Pairwise fun x y => leV x y = true) : out = srt l := by
  refine List.Perm.eq_of_pairwise (le := fun x y => leV x y = true) ?_ hs (srt_rises l) (hp.trans (srt_perm l).symm)
  intro a b _ _ h1 h2
  rw [leV_iff] at h1 h2
  have := cmpW_rev a b
  exact cmpW_eq (by omega)
theorem srt_merge (l r : List V) : List.merge (srt l) (srt r) leV = srt (l ++ r) := by
  refine srt_only ((List.merge_perm_append leV).trans ((srt_perm l).append (srt_perm r))) ?_
  exact List.pairwise_merge leV_trans leV_total _ _ (srt_rises l) (srt_rises r)
theorem srt_short {l : List V} (h : l.length < 2) : srt l = l := by
  refine (srt_only (List.Perm.refl l) ?_).symm
  match l, h with
  | [], _ => exact .nil
  | [x], _ => exact List.pairwise_singleton _ _
  | _ :: _ :: t, h => exact absurd h (by simp)
theorem srt_len (l : List V) : (srt l).length = l.length := (srt_perm l).length_eq
theorem srt_mem {l : List V} {x : V} (h : x ∈ srt l) : x ∈ l := (srt_perm l).mem_iff.1 h

instance : DecidableEq V := fun x y => if h : veq x.k x.n x.s y.k y.n y.s = true then .isTrue (veq_iff.1 h) else .isFalse fun e => h (by subst e; exact veq_self _ _ _)
/-- a value is set behind, if it is not the last one already -/
def ddStep (l : List V) (x : V) : List V := if l.getLast? = some x then l else l ++ [x]
/-- of each run of equal values the first one -/
def dd (l : List V) : List V := l.foldl ddStep []
theorem ddStep_last (l : List V) (x : V) : (ddStep l x).getLast? = some x := by
  unfold ddStep
  split
  · assumption
  · simp
theorem dd_snoc (l : List V) (x : V) : dd (l ++ [x]) = ddStep (dd l) x := by
  unfold dd
  rw [List.foldl_append]; rfl
theorem dd_last (l : List V) (x : V) : (dd (l ++ [x])).getLast? = some x := by
  rw [dd_snoc]; exact ddStep_last _ _
theorem ddStep_len (l : List V) (x : V) : (ddStep l x).length ≤ l.length + 1 := by
  unfold ddStep
  split <;> simp
theorem dd_take {l : List V} {k : Nat} (h : k < l.length) : dd (l.take (k + 1)) = ddStep (dd (l.take k)) l[k] := by
  rw [List.take_succ_eq_append_getElem h, dd_snoc]
theorem dd_take_len (l : List V) : ∀ k, k ≤ l.length → (dd (l.take k)).length ≤ k
  | 0, _ => by simp [dd]
  | k + 1, h => by
    rw [dd_take (by omega)]
    have h1 := ddStep_len (dd (l.take k)) l[k]
    have h2 := dd_take_len l k (by omega)
    omega
theorem dd_take_pos {l : List V} {k : Nat} (h : k < l.length) : 0 < (dd (l.take (k + 1))).length := by
  have h1 := dd_last (l.take k) l[k]
  rw [← List.take_succ_eq_append_getElem h] at h1
  cases hd : dd (l.take (k + 1)) with
  | nil => rw [hd] at h1; cases h1
  | cons x r => simp
/-- the last one that was kept is the one before -/
theorem dd_prev {l : List V} {k : Nat} (h : k < l.length) : (dd (l.take (k + 1))).getLast? = some l[k] := by
  rw [List.take_succ_eq_append_getElem h]; exact dd_last _ _
end Go.Proofs.YtapnnheggjahlaaGreatDoor
namespace Go.Proofs.YtapnnheggjahlaaGreatDoor
open Go.RowKit

/-- an order that tells less, same, more -/
structure WO {α : Type} (c : α → α → Int) : Prop where
  rev : ∀ x y, c y x = -c x y
  le : ∀ x y z, c x y ≤ 0 → c y z ≤ 0 → c x z ≤ 0
section
variable {α : Type} {c d : α → α → Int}
theorem WO.self (h : WO c) (x : α) : c x x = 0 := by have := h.rev x x; omega
theorem WO.ge (h : WO c) {x y z : α} (h1 : 0 ≤ c x y) (h2 : 0 ≤ c y z) : 0 ≤ c x z := by
  have h3 := h.rev x y
  have h4 := h.rev y z
  have h5 := h.rev x z
  have := h.le z y x (by omega) (by omega)
  omega
theorem WO.lt_le (h : WO c) {x y z : α} (h1 : c x y < 0) (h2 : c y z ≤ 0) : c x z < 0 := by
  have h3 := h.rev x y
  have h5 := h.rev x z
  by_cases h0 : c x z < 0
  · exact h0
  · have := h.le y z x h2 (by omega)
    omega
theorem WO.le_lt (h : WO c) {x y z : α} (h1 : c x y ≤ 0) (h2 : c y z < 0) : c x z < 0 := by
  have h3 := h.rev y z
  have h5 := h.rev x z
  by_cases h0 : c x z < 0
  · exact h0
  · have := h.le z x y (by omega) h1
    omega
theorem WO.zero (h : WO c) {x y z : α} (h1 : c x y = 0) (h2 : c y z = 0) : c x z = 0 := by
  have h3 := h.rev x y
  have h4 := h.rev y z
  have h5 := h.rev x z
  have := h.le x y z (by omega) (by omega)
  have := h.le z y x (by omega) (by omega)
  omega
/-- c, and where it doesn't tell, d -/
def lexC (c d : α → α → Int) (x y : α) : Int := if c x y = 0 then d x y else c x y
theorem WO.lex (h : WO c) (k : WO d) : WO (lexC c d) where
  rev x y := by
    unfold lexC
    have := h.rev x y
    have := k.rev x y
    split <;> split <;> omega
  le x y z h1 h2 := by
    unfold lexC at *
    by_cases a : c x y = 0
    · rw [if_pos a] at h1
      by_cases b : c y z = 0
      · rw [if_pos b] at h2
        rw [if_pos (h.zero a b)]
        exact k.le x y z h1 h2
      · rw [if_neg b] at h2
        have := h.le_lt (x := x) (y := y) (z := z) (by omega) (by omega)
        rw [if_neg (by omega)]
        omega
    · rw [if_neg a] at h1
      have hz : c y z ≤ 0 := by
        by_cases b : c y z = 0
        · omega
        · rw [if_neg b] at h2; exact h2
      have := h.lt_le (x := x) (y := y) (z := z) (by omega) hz
      rw [if_neg (by omega)]
      omega
theorem WO.neg (h : WO c) : WO fun x y => -c x y where
  rev x y := by have := h.rev x y; omega
  le x y z h1 h2 := by have := h.ge (x := x) (y := y) (z := z) (by omega) (by omega); omega
theorem WO.on {β : Type} (h : WO c) (f : β → α) : WO fun x y => c (f x) (f y) := ⟨fun _ _ => h.rev _ _, fun _ _ _ => h.le _ _ _⟩
theorem WO.none : WO fun _ _ : α => 0 := ⟨fun _ _ => rfl, fun _ _ _ _ _ => Int.le_refl _⟩

/-- the sorted list -/
def leC (c : α → α → Int) (x y : α) : Bool := decide (c x y ≤ 0)
theorem leC_iff {x y : α} : leC c x y = true ↔ c x y ≤ 0 := by unfold leC; simp
def srtC (c : α → α → Int) (l : List α) : List α := l.mergeSort (leC c)
theorem WO.tr (h : WO c) (x y z : α) (h1 : leC c x y = true) (h2 : leC c y z = true) : leC c x z = true := leC_iff.2 (h.le _ _ _ (leC_iff.1 h1) (leC_iff.1 h2))
theorem WO.tot (h : WO c) (x y : α) : (leC c x y || leC c y x) = true := by
  rw [Bool.or_eq_true, leC_iff, leC_iff]
  have := h.rev x y
  omega
theorem srtC_perm (l : List α) : (srtC c l).Perm l := List.mergeSort_perm _ _
theorem srtC_rises (h : WO c) (l : List α) : (srtC c l).Pairwise fun x y => leC c x y = true := List.pairwise_mergeSort h.tr h.tot l
theorem srtC_only (h : WO c) (he : ∀ x y, c x y = 0 → x = y) {l out : List α} (hp : out.Perm l) (hs : out.Pairwise fun x y => leC c x y = true) : out = srtC c l := by
  refine List.Perm.eq_of_pairwise (le := fun x y => leC c x y = true) ?_ hs (srtC_rises h l) (hp.trans (srtC_perm l).symm)
  intro a b _ _ h1 h2
  rw [leC_iff] at h1 h2
  have := h.rev a b
  exact he a b (by omega)
theorem srtC_merge (h : WO c) (he : ∀ x y, c x y = 0 → x = y) (l r : List α) : List.merge (srtC c l) (srtC c r) (leC c) = srtC c (l ++ r) := by
  refine srtC_only h he ((List.merge_perm_append (leC c)).trans ((srtC_perm l).append (srtC_perm r))) ?_
  exact List.pairwise_merge h.tr h.tot _ _ (srtC_rises h l) (srtC_rises h r)
theorem srtC_short (h : WO c) (he : ∀ x y, c x y = 0 → x = y) {l : List α} (hl : l.length < 2) : srtC c l = l := by
  refine (srtC_only h he (List.Perm.refl l) ?_).symm
  match l, hl with
  | [], _ => exact .nil
  | [x], _ => exact List.pairwise_singleton _ _
  | _ :: _ :: t, h => exact absurd h (by simp)
theorem srtC_len (l : List α) : (srtC c l).length = l.length := (srtC_perm l).length_eq
theorem srtC_mem {l : List α} {x : α} : x ∈ srtC c l ↔ x ∈ l := (srtC_perm l).mem_iff

/-- the runs of what is the same for c -/
def runsOf (c : α → α → Int) : List α → List (List α)
  | [] => []
  | x :: l => (x :: l.takeWhile fun y => c x y == 0) :: runsOf c (l.dropWhile fun y => c x y == 0)
termination_by l => l.length
decreasing_by
  have := (List.dropWhile_sublist (fun y => c x y == 0) (l := l)).length_le
  simp only [List.length_cons]
  omega
theorem runsOf_nil : runsOf c [] = [] := by rw [runsOf]
theorem runsOf_cons (x : α) (l : List α) : runsOf c (x :: l) = (x :: l.takeWhile fun y => c x y == 0) :: runsOf c (l.dropWhile fun y => c x y == 0) := by rw [runsOf]
theorem runsOf_flat (l : List α) : (runsOf c l).flatten = l := by
  induction hn : l.length using Nat.strongRecOn generalizing l with
  | _ n ih =>
    match l, hn with
    | [], _ => rw [runsOf_nil]; rfl
    | x :: t, hn =>
      rw [runsOf_cons, List.flatten_cons]
      have := (List.dropWhile_sublist (fun y => c x y == 0) (l := t)).length_le
      rw [ih _ (by simp at hn; omega) _ rfl]
      simp [List.takeWhile_append_dropWhile]
end

/-- the order of rows -/
def cmpR : List V → List V → Int
  | [], [] => 0
  | [], _ :: _ => -1
  | _ :: _, [] => 1
  | x :: a, y :: b => if cmpW x y = 0 then cmpR a b else cmpW x y
theorem cmpW_WO : WO cmpW := ⟨cmpW_rev, fun _ _ _ => cmpW_le⟩
theorem cmpR_rev : ∀ a b : List V, cmpR b a = -cmpR a b
  | [], [] => rfl
  | [], _ :: _ => rfl
  | _ :: _, [] => rfl
  | x :: a, y :: b => by
    unfold cmpR
    have := cmpW_rev x y
    have := cmpR_rev a b
    split <;> split <;> omega
theorem cmpR_le : ∀ a b c : List V, cmpR a b ≤ 0 → cmpR b c ≤ 0 → cmpR a c ≤ 0
  | [], _, [], _, _ => by simp [cmpR]
  | [], _, _ :: _, _, _ => by simp [cmpR]
  | _ :: _, [], _, h, _ => by simp [cmpR] at h
  | _ :: _, _ :: _, [], _, h => by simp [cmpR] at h
  | x :: a, y :: b, z :: c, h1, h2 => by
    unfold cmpR at h1 h2 ⊢
    by_cases e1 : cmpW x y = 0
    · rw [if_pos e1] at h1
      by_cases e2 : cmpW y z = 0
      · rw [if_pos e2] at h2
        rw [if_pos (cmpW_WO.zero e1 e2)]
        exact cmpR_le a b c h1 h2
      · rw [if_neg e2] at h2
        have := cmpW_WO.le_lt (x := x) (y := y) (z := z) (by omega) (by omega)
        rw [if_neg (by omega)]
        omega
    · rw [if_neg e1] at h1
      have hz : cmpW y z ≤ 0 := by
        by_cases e2 : cmpW y z = 0
        · omega
        · rw [if_neg e2] at h2; exact h2
      have := cmpW_WO.lt_le (x := x) (y := y) (z := z) (by omega) hz
      rw [if_neg (by omega)]
      omega
theorem cmpR_eq : ∀ a b : List V, cmpR a b = 0 → a = b
  | [], [], _ => rfl
  | [], _ :: _, h => by simp [cmpR] at h
  | _ :: _, [], h => by simp [cmpR] at h
  | x :: a, y :: b, h => by
    unfold cmpR at h
    split at h
    · rename_i e
      rw [cmpW_eq e, cmpR_eq a b h]
    · contradiction
theorem cmpR_WO : WO cmpR := ⟨cmpR_rev, cmpR_le⟩
theorem cmpR_self (a : List V) : cmpR a a = 0 := cmpR_WO.self a
theorem cmpR_iff {a b : List V} : cmpR a b = 0 ↔ a = b := ⟨cmpR_eq a b, fun e => e ▸ cmpR_self a⟩

/-- one key: the place, and whether it falls -/
def cmpKey (k : Nat × Bool) (a b : List V) : Int := if k.2 then -cmpW (a[k.1]?.getD zV) (b[k.1]?.getD zV) else cmpW (a[k.1]?.getD zV) (b[k.1]?.getD zV)
theorem cmpKey_WO (k : Nat × Bool) : WO (cmpKey k) := by
  have h := cmpW_WO.on fun r : List V => r[k.1]?.getD zV
  unfold cmpKey
  cases k.2
  · simpa using h
  · simpa using h.neg
/-- by keys alone -/
def cmpKs : List (Nat × Bool) → List V → List V → Int
  | [], _, _ => 0
  | k :: ks, a, b => lexC (cmpKey k) (cmpKs ks) a b
theorem cmpKs_WO : ∀ ks, WO (cmpKs ks)
  | [] => WO.none
  | k :: ks => (cmpKey_WO k).lex (cmpKs_WO ks)
/-- by keys, then by the order of rows -/
def cmpKR (ks : List (Nat × Bool)) : List V → List V → Int := lexC (cmpKs ks) cmpR
theorem cmpKR_WO (ks : List (Nat × Bool)) : WO (cmpKR ks) := (cmpKs_WO ks).lex cmpR_WO
theorem cmpKR_eq {ks : List (Nat × Bool)} (a b : List V) (h : cmpKR ks a b = 0) : a = b := by
  unfold cmpKR lexC at h
  split at h
  · exact cmpR_eq a b h
  · contradiction
theorem cmpKR_nil : cmpKR [] = cmpR := by
  funext a b
  simp [cmpKR, lexC, cmpKs]

/-- the rows in canonical order -/
abbrev canon (L : List (List V)) : List (List V) := srtC cmpR L
theorem c0_beq (x y : List V) : (cmpR x y == 0) = decide (y = x) := by
  rw [Bool.eq_iff_iff, beq_iff_eq, cmpR_iff, decide_eq_true_iff]
  exact eq_comm
/-- of each run the first one -/
def hdsR (s : List (List V)) : List (List V) := (runsOf cmpR s).filterMap List.head?
theorem hdsR_nil : hdsR [] = [] := by simp [hdsR, runsOf_nil]
theorem hdsR_cons (x : List V) (t : List (List V)) : hdsR (x :: t) = x :: hdsR (t.dropWhile fun y => decide (y = x)) := by
  have : (fun y => cmpR x y == 0) = fun y => decide (y = x) := funext fun y => c0_beq x y
  simp [hdsR, runsOf_cons, this]
/-- a row is set behind, if it is not the last one already -/
def ddRStep (l : List (List V)) (x : List V) : List (List V) := if l.getLast? = some x then l else l ++ [x]
def ddR (l : List (List V)) : List (List V) := l.foldl ddRStep []
theorem ddR_run (x : List V) : ∀ (t acc : List (List V)), acc.getLast? = some x → t.foldl ddRStep acc = (t.dropWhile fun y => decide (y = x)).foldl ddRStep acc
  | [], _, _ => rfl
  | y :: t, acc, h => by
    by_cases e : y = x
    · subst e
      have h2 : ddRStep acc y = acc := by unfold ddRStep; rw [if_pos h]
      simp only [List.foldl_cons, h2, List.dropWhile_cons, decide_true, if_true]
      exact ddR_run y t acc h
    · simp [e]
theorem ddR_hds (s acc : List (List V)) (h : ∀ y, s.head? = some y → acc.getLast? ≠ some y) : s.foldl ddRStep acc = acc ++ hdsR s := by
  induction hn : s.length using Nat.strongRecOn generalizing s acc with
  | _ n ih =>
    match s, hn with
    | [], _ => simp [hdsR_nil]
    | x :: t, hn =>
      have h1 : ddRStep acc x = acc ++ [x] := by unfold ddRStep; rw [if_neg (h x rfl)]
      rw [List.foldl_cons, h1, ddR_run x t _ (by simp), hdsR_cons]
      have hl := (List.dropWhile_sublist (fun y => decide (y = x)) (l := t)).length_le
      rw [ih _ (by simp at hn; omega) _ _ (fun y hy => ?_) rfl]
      · simp
      · have := List.head?_dropWhile_not (fun y => decide (y = x)) t
        rw [hy] at this
        simp at this ⊢
        exact fun e => this e.symm
theorem ddR_eq (s : List (List V)) : ddR s = hdsR s := by
  unfold ddR
  rw [ddR_hds s [] (by simp)]
  simp
/-- what stands in front of a rising list -/
theorem run_front {x : List V} {t : List (List V)} (h : (x :: t).Pairwise fun a b => leC cmpR a b = true) :
    (t.takeWhile fun y => decide (y = x)) = List.replicate (t.count x) x ∧ x ∉ t.dropWhile (fun y => decide (y = x)) := by
  induction t with
  | nil => simp
  | cons y t ih =>
    have h1 := List.pairwise_cons.1 h
    have h2 := List.pairwise_cons.1 h1.2
    by_cases e : y = x
    · subst e
      obtain ⟨i1, i2⟩ := ih (List.pairwise_cons.2 ⟨fun z hz => h1.1 z (List.mem_cons_of_mem _ hz), h2.2⟩)
      refine ⟨?_, ?_⟩
      · simp [i1, List.replicate_succ]
      · simpa using i2
    · have hne : x ∉ y :: t := by
        intro hm
        cases hm with
        | head => exact e rfl
        | tail _ hm =>
          have a := leC_iff.1 (h1.1 y (List.mem_cons_self ..))
          have b := leC_iff.1 (h2.1 x hm)
          have := cmpR_rev x y
          exact e (cmpR_eq x y (by omega)).symm
      refine ⟨?_, ?_⟩
      · rw [List.count_eq_zero_of_not_mem hne]
        simp [e]
      · simpa [e] using hne
theorem count_drop {x y : List V} {t : List (List V)} (hne : y ≠ x) : (t.dropWhile fun z => decide (z = x)).count y = t.count y := by
  induction t with
  | nil => rfl
  | cons z t ih =>
    by_cases e : z = x
    · subst e
      simp only [List.dropWhile_cons, decide_true, if_true, ih]
      rw [List.count_cons_of_ne (fun h => hne h.symm)]
    · simp [e]
theorem hdsR_mem {s : List (List V)} {y : List V} (h : y ∈ hdsR s) : y ∈ s := by
  induction hn : s.length using Nat.strongRecOn generalizing s with
  | _ n ih =>
    match s, hn with
    | [], _ => simp [hdsR_nil] at h
    | x :: t, hn =>
      rw [hdsR_cons] at h
      cases h with
      | head => exact List.mem_cons_self ..
      | tail _ h =>
        have hl := (List.dropWhile_sublist (fun y => decide (y = x)) (l := t)).length_le
        exact List.mem_cons_of_mem _ ((List.dropWhile_sublist _).subset (ih _ (by simp at hn; omega) h rfl))
theorem flatMap_same {α β : Type} {f g : α → List β} : ∀ {l : List α}, (∀ x ∈ l, f x = g x) → l.flatMap f = l.flatMap g
  | [], _ => rfl
  | x :: l, h => by
    rw [List.flatMap_cons, List.flatMap_cons, h x (List.mem_cons_self ..), flatMap_same fun y hy => h y (List.mem_cons_of_mem _ hy)]
/-- THE RUNS OF A RISING LIST: each different row, as often as it is there -/
theorem runs_rising {β : Type} (g : List (List V) → List β) {s : List (List V)} (h : s.Pairwise fun a b => leC cmpR a b = true) :
    ((runsOf cmpR s).map g).flatten = (hdsR s).flatMap fun x => g (List.replicate (s.count x) x) := by
  induction hn : s.length using Nat.strongRecOn generalizing s with
  | _ n ih =>
    match s, hn with
    | [], _ => simp [hdsR_nil, runsOf_nil]
    | x :: t, hn =>
      obtain ⟨h1, h2⟩ := run_front h
      have hf : (fun y => cmpR x y == 0) = fun y => decide (y = x) := funext fun y => c0_beq x y
      have hl := (List.dropWhile_sublist (fun y => decide (y = x)) (l := t)).length_le
      have hp : (t.dropWhile fun y => decide (y = x)).Pairwise fun a b => leC cmpR a b = true := (List.pairwise_cons.1 h).2.sublist (List.dropWhile_sublist _)
      rw [runsOf_cons, hdsR_cons, hf, List.map_cons, List.flatten_cons, List.flatMap_cons, h1]
      have e1 : x :: List.replicate (t.count x) x = List.replicate ((x :: t).count x) x := by simp [List.replicate_succ]
      rw [e1, ih _ (by simp at hn; omega) hp rfl]
      congr 1
      refine flatMap_same fun y hy => ?_
      have hne : y ≠ x := fun e => by
        have hm := hdsR_mem hy
        rw [e] at hm
        exact h2 hm
      rw [count_drop hne, List.count_cons_of_ne (fun e => hne e.symm)]
theorem count_canon (L : List (List V)) (x : List V) : (canon L).count x = L.count x := (srtC_perm L).count_eq x
/-- what the program's chosen gives -/
def chooseR (f : Nat → List V → Nat) (L : List (List V)) : List (List V) := (hdsR (canon L)).flatMap fun x => List.replicate (min (f (L.count x) x) (L.count x)) x
theorem choose_runs (f : Nat → List V → Nat) (L : List (List V)) :
    ((runsOf cmpR (canon L)).map fun run => run.take (f run.length (run.headD []))).flatten = chooseR f L := by
  rw [runs_rising (fun run => run.take (f run.length (run.headD []))) (srtC_rises cmpR_WO L)]
  unfold chooseR
  refine flatMap_same fun x hx => ?_
  have hm := hdsR_mem hx
  have hc : 0 < (canon L).count x := List.count_pos_iff.2 hm
  rw [count_canon] at hc ⊢
  have hh : (List.replicate (L.count x) x).headD [] = x := by
    obtain ⟨k, hk⟩ : ∃ k, L.count x = k + 1 := ⟨L.count x - 1, by omega⟩
    rw [hk, List.replicate_succ]; rfl
  rw [hh, List.length_replicate, List.take_replicate]
end Go.Proofs.YtapnnheggjahlaaGreatDoor
namespace Go.Proofs.YtapnnheggjahlaaGreatDoor
open Go.RowKit

/-- only new memory, and maybe draws -/
def Lay (w w' : World) : Prop := Below w.heap.size w w' ∧ w.drawn ≤ w'.drawn
theorem Lay.refl (w : World) : Lay w w := ⟨Below.refl _ _, Nat.le_refl _⟩
theorem Lay.al {w w0 : World} (h : Lay w w0) (o : Obj) : Lay w (w0.alloc o) := ⟨h.1.alloc h.1.size o, h.2⟩
theorem Lay.drew {w w0 : World} (h : Lay w w0) : Lay w w0.drew := ⟨⟨h.1.os, h.1.tape, h.1.output, h.1.size, h.1.block⟩, Nat.le_succ_of_le h.2⟩
theorem Lay.thn {w w0 w1 : World} (h : Lay w w0) (k : Lay w0 w1) : Lay w w1 := ⟨h.1.trans (k.1.mono h.1.size), Nat.le_trans h.2 k.2⟩
theorem Lay.st {w w0 : World} (h : Lay w w0) {p : Addr} (hp : w.heap.size ≤ p.block) (u : Value) : Lay w (w0.setCell p u) := ⟨h.1.setCell hp u, h.2⟩
theorem Lay.grow {w w' : World} (h : Lay w w') : ∃ q os', w' = Sort.grow (w.drewN q) os' := by
  refine ⟨w'.drawn - w.drawn, w'.heap.extract w.heap.size w'.heap.size, ?_⟩
  obtain ⟨⟨h1, h2, h3, h4, h5⟩, h6⟩ := h
  obtain ⟨hp, tp, dr, os, out⟩ := w
  obtain ⟨hp', tp', dr', os', out'⟩ := w'
  simp only at *
  subst h1 h2 h3
  unfold Sort.grow World.drewN
  simp only [World.mk.injEq, and_true, true_and]
  refine ⟨?_, by omega⟩
  apply Array.ext
  · simp; omega
  · intro i hi1 hi2
    rw [Array.getElem_append]
    split
    · rename_i hlt
      have := h5 i hlt
      simp only [hi1, hlt, Array.getElem?_eq_getElem, Option.some.injEq] at this
      exact this
    · rename_i hge
      simp
      congr 1
      omega

set_option maxHeartbeats 400000 in
theorem isValue_lay (k n : Int) (s : ByteArray) (w : World) (hs : s.size ≤ maxLen) :
    Calls Tryz.prog 145 #[.agg #[.int .i64 k, .int .i64 n, .string s]] w fun e w' => e = .returned (.bool (okVal k n s.data.toList)) ∧ Lay w w' := by
  go_enter Tryz.func145, Tryz.ntmps145
  go_wp2_with (go_at_call 166; refine (isText_any _ _ hs).mono ?_; rintro e w' ⟨rfl, rfl⟩)
  all_goals go_ret
  all_goals (refine ⟨ret_bool (a := _) ?_, (Lay.refl _).al _⟩; go_light; simp_all [okVal, ByteArray.toList_eq])


set_option maxHeartbeats 400000 in
theorem check_lay (A : Option Addr) (c : Nat) (l : List V) (w : World) (hr : VReads w w.heap.size A l) (hf : VFit l) (hn : l.length ≤ maxLen) :
    Calls Tryz.prog 119 #[.slice A l.length c] w fun e w' => e = .returned (.int .i64 (chk l)) ∧ Lay w w' := by
  unfold maxLen at hn
  by_cases hl : l.length ≤ 20000
  · have hsz : decide ((20000 : Int) < (l.length : Int)) = false := by simp; omega
    go_enter Tryz.func119, Tryz.ntmps119
    go_wp2
    go_loopw [10] (fun i wr => ∃ k : Nat, k ≤ l.length ∧ i = .int .i64 k ∧ Hid ((l.take k).all V.ok = true) ∧ Lay w wr) (fun i _ => l.length - (intOf i).toNat)
    case atStart => exact ⟨0, Nat.zero_le _, rfl, rfl, Lay.refl _⟩
    case round =>
      obtain ⟨k, hk, rfl, hall, hb⟩ := hrel
      by_cases hlt : k < l.length
      · obtain ⟨b, o, rfl, hblk, c0, c1, c2⟩ := (hr.below hb.1 hb.1.size).at_ hlt
        have hfk := hf l[k] (List.getElem_mem hlt)
        by_cases hok : okVal l[k].k l[k].n l[k].s.data.toList = true
        · have HN := Lib.hid (all_snoc hlt hall.out hok)
          go_wp2_with (go_at_call 145; refine (isValue_lay _ _ _ _ hfk).mono ?_; rintro e w1 ⟨rfl, hb1⟩)
          go_roundw
          case rel => exact ⟨k + 1, by omega, by go_num, HN, (hb.al _).thn hb1⟩
          case measure => simp [intOf]; omega
        · have hok0 : okVal l[k].k l[k].n l[k].s.data.toList = false := by simpa using hok
          have HE := Lib.hid (chk_bad hl hlt hok0)
          clear hok
          go_wp2_with (go_at_call 145; refine (isValue_lay _ _ _ _ hfk).mono ?_; rintro e w1 ⟨rfl, hb1⟩)
          go_ret
          exact ⟨ret_int HE.out.symm, (hb.al _).thn hb1⟩
      · go_wp2
        go_ret
        refine ⟨ret_int (chk_good hl ?_).symm, hb⟩
        have h2 := hall.out
        rw [List.take_of_length_le (by omega)] at h2
        exact h2
  · have hsz : decide ((20000 : Int) < (l.length : Int)) = true := by simp; omega
    have HR := Lib.hid (chk_large hl)
    go_enter Tryz.func119, Tryz.ntmps119
    go_wp2
    go_ret
    exact ⟨ret_int HR.out.symm, Lay.refl _⟩


set_option maxHeartbeats 400000 in
theorem compare_lay (k n : Int) (s : ByteArray) (k' n' : Int) (s' : ByteArray) (w : World) :
    Calls Tryz.prog 134 #[.agg #[.int .i64 k, .int .i64 n, .string s], .agg #[.int .i64 k', .int .i64 n', .string s']] w fun e w' => e = .returned (.int .i64 (cmpV k n s k' n' s')) ∧ Lay w w' := by
  by_cases hk : k = k'
  · by_cases hn : n = n'
    · have HR : Hid (cmpV k n s k' n' s' = Lib.compareBytes s.data.toList s'.data.toList) := by show cmpV k n s k' n' s' = _; unfold cmpV; rw [if_pos hk, if_pos hn]
      have e1 : (k != k') = false := by simp [hk]
      have e2 : (n != n') = false := by simp [hn]
      clear hk hn
      go_enter Tryz.func134, Tryz.ntmps134
      go_wp2_with fail
      refine (Tryz.strings_Compare _ _ _).mono ?_
      rintro e w1 ⟨rfl, rfl⟩
      go_wp2_with fail
      go_ret
      exact ⟨ret_int HR.out.symm, ((Lay.refl _).al _).al _⟩
    · have HR : Hid (cmpV k n s k' n' s' = cmpI n n') := by show cmpV k n s k' n' s' = _; unfold cmpV; rw [if_pos hk, if_neg hn]
      have e1 : (k != k') = false := by simp [hk]
      have e2 : (n != n') = true := by simp [hn]
      clear hk hn
      go_enter Tryz.func134, Tryz.ntmps134
      go_wp2_with fail
      refine (compare_i64 _ _ _).mono ?_
      rintro e w1 ⟨rfl, rfl⟩
      go_wp2_with fail
      go_ret
      exact ⟨ret_int HR.out.symm, ((Lay.refl _).al _).al _⟩
  · have HR : Hid (cmpV k n s k' n' s' = cmpI k k') := if_neg hk
    have e1 : (k != k') = true := by simp [hk]
    clear hk
    go_enter Tryz.func134, Tryz.ntmps134
    go_wp2_with fail
    refine (compare_kind _ _ _).mono ?_
    rintro e w1 ⟨rfl, rfl⟩
    go_wp2_with fail
    go_ret
    exact ⟨ret_int HR.out.symm, ((Lay.refl _).al _).al _⟩


set_option maxHeartbeats 400000 in
theorem Compare_lay (k n : Int) (s : ByteArray) (k' n' : Int) (s' : ByteArray) (w : World) (hs : s.size ≤ maxLen) (hs' : s'.size ≤ maxLen) (h0 : chk [⟨k, n, s⟩, ⟨k', n', s'⟩] = 0) :
    Calls Tryz.prog 116 #[.agg #[.int .i64 k, .int .i64 n, .string s], .agg #[.int .i64 k', .int .i64 n', .string s']] w fun e w' => e = .returned (.tuple #[.int .i64 (cmpV k n s k' n' s'), .int .i64 0]) ∧ Lay w w' := by
  have he : (chk [⟨k, n, s⟩, ⟨k', n', s'⟩] != 0) = false := by simp [h0]
  clear h0
  go_enter Tryz.func116, Tryz.ntmps116
  go_wp2_with fail
  have A3 := Blk.new' (w := (w.alloc (.cells #[.int .i64 k, .int .i64 n, .string s] 78)).alloc (.cells #[.int .i64 k', .int .i64 n', .string s'] 78)) (g := w.heap.size + 1 + 1) (t := 78) (cs := #[.int .i64 k, .int .i64 n, .string s, .int .i64 k', .int .i64 n', .string s']) (by simp)
  refine (check_lay _ _ [⟨k, n, s⟩, ⟨k', n', s'⟩] _ (VReads.two A3 (by simp)) (VFit.two hs hs') (by simp [maxLen])).mono ?_
  rintro e w1 ⟨rfl, hb1⟩
  have E1 := (((Blk.new' (w := w) (g := w.heap.size) (t := 78) (cs := #[.int .i64 k, .int .i64 n, .string s]) rfl).alloc (.cells #[.int .i64 k', .int .i64 n', .string s'] 78)).alloc (.cells #[.int .i64 k, .int .i64 n, .string s, .int .i64 k', .int .i64 n', .string s'] 78)).below hb1.1 (by simp <;> omega)
  have E2 := ((Blk.new' (w := w.alloc (.cells #[.int .i64 k, .int .i64 n, .string s] 78)) (g := w.heap.size + 1) (t := 78) (cs := #[.int .i64 k', .int .i64 n', .string s']) (by simp)).alloc (.cells #[.int .i64 k, .int .i64 n, .string s, .int .i64 k', .int .i64 n', .string s'] 78)).below hb1.1 (by simp <;> omega)
  have W1 := ((((Lay.refl w).al _).al _).al _).thn hb1
  obtain ⟨⟨a0, a1, a2⟩, ax⟩ := E1.three
  obtain ⟨⟨b0, b1, b2⟩, bx⟩ := E2.three
  clear ax bx hb1 A3 E1 E2
  go_wp2_with fail
  refine (compare_lay _ _ _ _ _ _ _).mono ?_
  rintro e w2 ⟨rfl, hb2⟩
  go_wp2_with fail
  go_ret2
  exact ⟨rfl, W1.thn hb2⟩

end Go.Proofs.YtapnnheggjahlaaGreatDoor
