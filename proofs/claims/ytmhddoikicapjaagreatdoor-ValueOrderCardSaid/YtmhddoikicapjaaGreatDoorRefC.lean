/-
  CONTRACT of the reference: Compare.
-/
import Derived.Test.YtmhddoikicapjaaGreatDoorVal7
import Derived.Test.YtmhddoikicapjaaGreatDoorUniC
namespace Go.Proofs.YtmhddoikicapjaaGreatDoor
open Go.RowKit

/-- equal beginnings are passed over -/
theorem cmpB_drop : ∀ (i : Nat) (a b : List UInt8), a.take i = b.take i → i ≤ a.length → i ≤ b.length → Lib.compareBytes a b = Lib.compareBytes (a.drop i) (b.drop i)
  | 0, a, b, _, _, _ => rfl
  | i + 1, [], b, _, h, _ => by simp at h
  | i + 1, _ :: _, [], _, _, h => by simp at h
  | i + 1, x :: a, y :: b, h, ha, hb => by
    simp only [List.take_succ_cons, List.cons.injEq] at h
    obtain ⟨rfl, ht⟩ := h
    have := cmpB_drop i a b ht (by simpa using ha) (by simpa using hb)
    simp only [Lib.compareBytes, List.drop_succ_cons, if_neg (UInt8.lt_irrefl x)]
    exact this
theorem cmpB_at {s s' : ByteArray} {i : Nat} (h : i < s.size) (h' : i < s'.size) (ht : s.data.toList.take i = s'.data.toList.take i) :
    (s[i] < s'[i] → Lib.compareBytes s.data.toList s'.data.toList = -1) ∧ (s'[i] < s[i] → Lib.compareBytes s.data.toList s'.data.toList = 1) := by
  have l1 : i < s.data.toList.length := by simpa using h
  have l2 : i < s'.data.toList.length := by simpa using h'
  rw [cmpB_drop i _ _ ht (by omega) (by omega), List.drop_eq_getElem_cons l1, List.drop_eq_getElem_cons l2]
  have e1 : s.data.toList[i] = s[i] := rfl
  have e2 : s'.data.toList[i] = s'[i] := rfl
  rw [e1, e2]
  refine ⟨fun hl => by simp [Lib.compareBytes, hl], fun hl => ?_⟩
  have : ¬ s[i] < s'[i] := fun hh => UInt8.lt_irrefl _ (UInt8.lt_trans hl hh)
  simp [Lib.compareBytes, hl, this]
theorem cmpB_end {s s' : ByteArray} {i : Nat} (h : i ≤ s.size) (h' : i ≤ s'.size) (ht : s.data.toList.take i = s'.data.toList.take i) (hm : i = s.size ∨ i = s'.size) :
    Lib.compareBytes s.data.toList s'.data.toList = if s.size = s'.size then 0 else if s.size < s'.size then -1 else 1 := by
  have l1 : i ≤ s.data.toList.length := by simpa using h
  have l2 : i ≤ s'.data.toList.length := by simpa using h'
  have e1 : s.data.toList.length = s.size := by simp
  have e2 : s'.data.toList.length = s'.size := by simp
  rw [cmpB_drop i _ _ ht l1 l2]
  cases ha : s.data.toList.drop i with
  | nil =>
    have ha' : s.data.toList.length ≤ i := by simpa using ha
    cases hb : s'.data.toList.drop i with
    | nil =>
      have hb' : s'.data.toList.length ≤ i := by simpa using hb
      rw [if_pos (by omega)]; rfl
    | cons y b =>
      have hb' : ¬ s'.data.toList.length ≤ i := fun hh => by rw [List.drop_eq_nil_of_le hh] at hb; cases hb
      rw [if_neg (by omega), if_pos (by omega)]; rfl
  | cons x a =>
    have ha' : ¬ s.data.toList.length ≤ i := fun hh => by rw [List.drop_eq_nil_of_le hh] at ha; cases ha
    cases hb : s'.data.toList.drop i with
    | nil =>
      have hb' : s'.data.toList.length ≤ i := by simpa using hb
      rw [if_neg (by omega), if_neg (by omega)]; rfl
    | cons y b =>
      have hb' : ¬ s'.data.toList.length ≤ i := fun hh => by rw [List.drop_eq_nil_of_le hh] at hb; cases hb
      omega

set_option maxHeartbeats 800000 in
theorem rCompare_any (k n : Int) (s : ByteArray) (k' n' : Int) (s' : ByteArray) (w : World) (hs : s.size ≤ maxLen) (hs' : s'.size ≤ maxLen) :
    Calls Tryz.prog 31 #[.agg #[.int .i64 k, .int .i64 n, .string s], .agg #[.int .i64 k', .int .i64 n', .string s']] w fun e w' => e = .returned (.int .i64 (cmpV k n s k' n' s')) ∧ Below w.heap.size w w' := by
  have hs := Nat.le_trans hs (Nat.le_refl _)
  have hs' := Nat.le_trans hs' (Nat.le_refl _)
  unfold maxLen at hs hs'
  by_cases hk : k = k'
  · by_cases hn : n = n'
    · have HR : Hid (cmpV k n s k' n' s' = Lib.compareBytes s.data.toList s'.data.toList) := by show cmpV k n s k' n' s' = _; unfold cmpV; rw [if_pos hk, if_pos hn]
      have e1 : (k != k') = false := by simp [hk]
      have e2 : (n != n') = false := by simp [hn]
      clear hk hn
      go_enter Tryz.func31, Tryz.ntmps31
      go_wp2_with fail
      go_loopw [5] (fun i wr => ∃ j : Nat, j ≤ s.size ∧ j ≤ s'.size ∧ i = .int .i64 j ∧ Hid (s.data.toList.take j = s'.data.toList.take j) ∧ Hid (Below w.heap.size w wr) ∧ Blk wr w.heap.size 35 #[.int .i64 k, .int .i64 n, .string s] ∧ Blk wr (w.heap.size + 1) 35 #[.int .i64 k', .int .i64 n', .string s']) (fun i _ => s.size - (intOf i).toNat)
      case atStart => exact ⟨0, Nat.zero_le _, Nat.zero_le _, rfl, rfl, al (al (Below.refl _ _) _) _, (Blk.new' rfl).alloc _, Blk.new' (by simp)⟩
      case round =>
        obtain ⟨j, hj, hj', rfl, HT, HB, B1, B2⟩ := hrel
        obtain ⟨⟨a0, a1, a2⟩, ax⟩ := B1.three
        obtain ⟨⟨b0, b1, b2⟩, bx⟩ := B2.three
        clear ax bx
        have hj0 : (0 : Int) ≤ (j : Int) := by omega
        by_cases h1 : j < s.size
        · by_cases h2 : j < s'.size
          · have h1i : (j : Int) < (s.size : Int) := by omega
            have h2i : (j : Int) < (s'.size : Int) := by omega
            by_cases he : s[j] = s'[j]
            · have ee : ((s[j].toNat : Int) != (s'[j].toNat : Int)) = false := by simp [he]
              have HN : Hid (s.data.toList.take (j + 1) = s'.data.toList.take (j + 1)) := by
                show _ = _
                rw [take_snoc s j h1, take_snoc s' j h2, HT.out, he]
              clear he
              go_wp2_with fail
              go_quiet (fail)
              go_wp2_with fail
              go_roundw
              case rel => exact ⟨j + 1, by omega, by omega, by go_num, HN, below_drewN HB.out _, B1.drewN _, B2.drewN _⟩
              case measure => simp [intOf]; omega
            · have hne : s[j].toNat ≠ s'[j].toNat := fun hh => he (UInt8.toNat_inj.1 hh)
              have ee : ((s[j].toNat : Int) != (s'[j].toNat : Int)) = true := by simp; omega
              by_cases hl : s[j].toNat < s'[j].toNat
              · have HL : Hid (Lib.compareBytes s.data.toList s'.data.toList = -1) := (cmpB_at h1 h2 HT.out).1 (UInt8.lt_iff_toNat_lt.2 hl)
                have hli : (s[j].toNat : Int) < (s'[j].toNat : Int) := by omega
                clear he hne hl
                go_wp2_with fail
                go_quiet (fail)
                go_wp2_with fail
                go_quiet (fail)
                go_wp2_with fail
                go_ret
                exact ⟨ret_int (by rw [HR.out, HL.out]), below_drewN (below_drewN HB.out _) _⟩
              · have HL : Hid (Lib.compareBytes s.data.toList s'.data.toList = 1) := (cmpB_at h1 h2 HT.out).2 (UInt8.lt_iff_toNat_lt.2 (by omega))
                have hli : ¬ (s[j].toNat : Int) < (s'[j].toNat : Int) := by omega
                clear he hne hl
                go_wp2_with fail
                go_quiet (fail)
                go_wp2_with fail
                go_quiet (fail)
                go_wp2_with fail
                go_ret
                exact ⟨ret_int (by rw [HR.out, HL.out]), below_drewN (below_drewN HB.out _) _⟩
          · have HE : Hid (Lib.compareBytes s.data.toList s'.data.toList = 1) := by
              show _ = _
              rw [cmpB_end hj hj' HT.out (.inr (by omega)), if_neg (by omega), if_neg (by omega)]
            have ne : ((s.size : Int) != (s'.size : Int)) = true := by simp; omega
            have nl : ¬ (s.size : Int) < (s'.size : Int) := by omega
            go_wp2_with fail
            go_ret
            exact ⟨ret_int (by rw [HR.out, HE.out]), HB.out⟩
        · by_cases h3 : s.size = s'.size
          · have HE : Hid (Lib.compareBytes s.data.toList s'.data.toList = 0) := by
              show _ = _
              rw [cmpB_end hj hj' HT.out (.inl (by omega)), if_pos h3]
            have ne : ((s.size : Int) != (s'.size : Int)) = false := by simp; omega
            go_wp2_with fail
            go_ret
            exact ⟨ret_int (by rw [HR.out, HE.out]), HB.out⟩
          · have HE : Hid (Lib.compareBytes s.data.toList s'.data.toList = -1) := by
              show _ = _
              rw [cmpB_end hj hj' HT.out (.inl (by omega)), if_neg h3, if_pos (by omega)]
            have ne : ((s.size : Int) != (s'.size : Int)) = true := by simp; omega
            have nl : (s.size : Int) < (s'.size : Int) := by omega
            go_wp2_with fail
            go_ret
            exact ⟨ret_int (by rw [HR.out, HE.out]), HB.out⟩
    · have e1 : (k != k') = false := by simp [hk]
      have e2 : (n != n') = true := by simp [hn]
      by_cases hl : n < n'
      · have HR : Hid (cmpV k n s k' n' s' = -1) := by show _ = _; unfold cmpV; rw [if_pos hk, if_neg hn, cmpI_lt hl]
        clear hk hn
        go_enter Tryz.func31, Tryz.ntmps31
        go_wp2_with fail
        go_ret
        exact ⟨ret_int HR.out.symm, al (al (Below.refl _ _) _) _⟩
      · have HR : Hid (cmpV k n s k' n' s' = 1) := by show _ = _; unfold cmpV; rw [if_pos hk, if_neg hn, cmpI_gt (by omega)]
        clear hk hn
        go_enter Tryz.func31, Tryz.ntmps31
        go_wp2_with fail
        go_ret
        exact ⟨ret_int HR.out.symm, al (al (Below.refl _ _) _) _⟩
  · have e1 : (k != k') = true := by simp [hk]
    by_cases hl : k < k'
    · have HR : Hid (cmpV k n s k' n' s' = -1) := by show _ = _; unfold cmpV; rw [if_neg hk, cmpI_lt hl]
      clear hk
      go_enter Tryz.func31, Tryz.ntmps31
      go_wp2_with fail
      go_ret
      exact ⟨ret_int HR.out.symm, al (al (Below.refl _ _) _) _⟩
    · have HR : Hid (cmpV k n s k' n' s' = 1) := by show _ = _; unfold cmpV; rw [if_neg hk, cmpI_gt (by omega)]
      clear hk
      go_enter Tryz.func31, Tryz.ntmps31
      go_wp2_with fail
      go_ret
      exact ⟨ret_int HR.out.symm, al (al (Below.refl _ _) _) _⟩
end Go.Proofs.YtmhddoikicapjaaGreatDoor
