/-
  CONTRACTS of the reference: Number, Parse.
-/
import Derived.Test.YtmhddoikicapjaaDoorBack
import Derived.Test.YtmhddoikicapjaaDoorReg
namespace Go.Proofs.YtmhddoikicapjaaDoor
open Go.RowKit

theorem step_i64 (n : Int) (c : UInt8) (h : I64 n) : I64 (numStep n c) := by
  unfold numStep
  split
  · unfold I64 wrap64; omega
  · exact h
theorem fold_i64 (l : List UInt8) : ∀ a, I64 a → I64 (l.foldl numStep a) := by
  induction l with
  | nil => intro a h; exact h
  | cons c l ih => intro a h; exact ih _ (step_i64 a c h)
theorem numFold_i64 (l : List UInt8) : I64 (numFold l) := fold_i64 l 0 ⟨by decide, by decide⟩
theorem numFold_snoc (l : List UInt8) (c : UInt8) : numFold (l ++ [c]) = numStep (numFold l) c := by
  unfold numFold
  rw [List.foldl_append]; rfl
theorem numFold_take (s : ByteArray) (j : Nat) (h : j < s.size) : numFold (s.data.toList.take (j + 1)) = numStep (numFold (s.data.toList.take j)) s[j] := by
  rw [take_snoc s j h, numFold_snoc]
theorem ba_of (s : ByteArray) : (⟨s.data.toList.toArray⟩ : ByteArray) = s := by
  obtain ⟨⟨l⟩⟩ := s; rfl
theorem itoa_size (n : Int) : (⟨(Lib.itoa n).toArray⟩ : ByteArray).size = (Lib.itoa n).length := by simp [ByteArray.size]
/-- no number has this string -/
def NoNum (s : ByteArray) : Prop := ∀ m, I64 m → (⟨(Lib.itoa m).toArray⟩ : ByteArray) ≠ s
theorem noNum_size {s : ByteArray} (h : s.size = 0 ∨ 20 < s.size) : NoNum s := fun m hm e => by
  have h1 := itoa_len m hm
  have h2 := itoa_size m
  rw [e] at h2
  omega
theorem noNum_fold {s : ByteArray} (h1 : (⟨(Lib.itoa (numFold s.data.toList)).toArray⟩ : ByteArray) ≠ s)
    (h2 : numFold s.data.toList = -9223372036854775808 ∨ (⟨(Lib.itoa (-numFold s.data.toList)).toArray⟩ : ByteArray) ≠ s) : NoNum s := fun m hm e => by
  have hf := fold_itoa m hm
  have e2 : s.data.toList = Lib.itoa m := by rw [← e]
  rw [e2, hf] at h1 h2
  obtain ⟨m0, m1⟩ := hm
  by_cases hn : m < 0
  · have e3 : -(m.natAbs : Int) = m := by omega
    rw [e3] at h1
    exact h1 e
  · have e3 : -(-(m.natAbs : Int)) = m := by omega
    rw [e3] at h2
    rcases h2 with h2 | h2
    · omega
    · exact h2 e
theorem beq_ba (a b : ByteArray) : (a.toList == b.toList) = decide (a = b) := by
  by_cases h : a = b
  · subst h; simp
  · rw [decide_eq_false h]
    rw [beq_eq_false_iff_ne]
    intro e
    rw [toList_eq, toList_eq] at e
    exact h (ba_list e)
theorem itoa_beq (m : Int) (s : ByteArray) : (Lib.itoa m == s.toList) = decide ((⟨(Lib.itoa m).toArray⟩ : ByteArray) = s) := by
  have h := beq_ba ⟨(Lib.itoa m).toArray⟩ s
  rw [ByteArray.toList_mk (Lib.itoa m)] at h
  exact h

set_option maxHeartbeats 800000 in
set_option maxRecDepth 100000 in
theorem rNumber_any (s : ByteArray) (w : World) (hs : s.size ≤ maxLen) :
    Calls Tryd.prog 22 #[.string s] w fun e w' => ∃ (n : Int) (b : Bool), e = .returned (.tuple #[.int .i64 n, .bool b]) ∧ I64 n ∧ (b = true → (⟨(Lib.itoa n).toArray⟩ : ByteArray) = s) ∧ (b = false → NoNum s) ∧ Below w.heap.size w w' := by
  have hs := Nat.le_trans hs (Nat.le_refl _)
  unfold maxLen at hs
  have z64 : I64 0 := ⟨by decide, by decide⟩
  by_cases h0 : s.size = 0
  · have HN := Lib.hid (noNum_size (s := s) (.inl h0))
    have e0 : ((s.size : Int) == 0) = true := by simp [h0]
    go_enter Tryd.func22, Tryd.ntmps22
    go_wp2_with fail
    exact bodyPost_ret (v := .tuple #[.int .i64 0, .bool false]) (by simp [results, Tryd.results22, go_sem]) rfl ⟨0, false, rfl, z64, (fun h => by cases h), fun _ => HN.out, Below.refl _ _⟩
  · have e0 : ((s.size : Int) == 0) = false := beq_eq_false_iff_ne.2 (by omega)
    by_cases h20 : 20 < s.size
    · have HN := Lib.hid (noNum_size (s := s) (.inr h20))
      have e20 : decide ((20 : Int) < (s.size : Int)) = true := by simp; omega
      go_enter Tryd.func22, Tryd.ntmps22
      go_wp2_with fail
      exact bodyPost_ret (v := .tuple #[.int .i64 0, .bool false]) (by simp [results, Tryd.results22, go_sem]) rfl ⟨0, false, rfl, z64, (fun h => by cases h), fun _ => HN.out, Below.refl _ _⟩
    · have e20 : decide ((20 : Int) < (s.size : Int)) = false := by simp; omega
      clear h0 h20
      go_enter Tryd.func22, Tryd.ntmps22
      go_wp2_with fail
      go_loop [4, 5] (fun n i => ∃ (j : Nat) (m : Int), j ≤ s.size ∧ i = .int .i64 j ∧ n = .int .i64 m ∧ Hid (m = numFold (s.data.toList.take j))) (fun _ i => s.size - (intOf i).toNat)
      case atStart => exact ⟨0, 0, Nat.zero_le _, rfl, rfl, rfl⟩
      case round =>
        obtain ⟨j, m, hj, rfl, rfl, HM⟩ := hrel
        have hj0 : (0 : Int) ≤ (j : Int) := by omega
        by_cases hlt : j < s.size
        · have hlti : (j : Int) < (s.size : Int) := by omega
          have ht := numFold_take s j hlt
          rw [← HM.out] at ht
          have hb := s[j].toNat_lt
          by_cases hd : 48 ≤ s[j].toNat ∧ s[j].toNat ≤ 57
          · obtain ⟨hd1, hd2⟩ := hd
            unfold numStep at ht
            rw [if_pos ⟨hd1, hd2⟩] at ht
            have HT := Lib.hid ht
            have g1 : (48 : Int) ≤ (s[j].toNat : Int) := by omega
            have g2 : (s[j].toNat : Int) ≤ 57 := by omega
            clear ht
            go_wp2_with fail
            go_round
            case rel => exact ⟨j + 1, _, by omega, by go_num, rfl, by show _ = _; rw [HT.out]⟩
            case measure => simp [intOf]; omega
          · unfold numStep at ht
            rw [if_neg hd] at ht
            have HT := Lib.hid ht
            clear ht
            by_cases hd1 : 48 ≤ s[j].toNat
            · have g1 : (48 : Int) ≤ (s[j].toNat : Int) := by omega
              have g2 : ¬ (s[j].toNat : Int) ≤ 57 := by omega
              go_wp2_with fail
              go_round
              case rel => exact ⟨j + 1, _, by omega, by go_num, rfl, HT.out.symm⟩
              case measure => simp [intOf]; omega
            · have g1 : ¬ (48 : Int) ≤ (s[j].toNat : Int) := by omega
              go_wp2_with fail
              go_round
              case rel => exact ⟨j + 1, _, by omega, by go_num, rfl, HT.out.symm⟩
              case measure => simp [intOf]; omega
        · have hf := HM.out
          rw [List.take_of_length_le (by simpa using hlt)] at hf
          have HF := Lib.hid hf
          have hi := numFold_i64 s.data.toList
          rw [← hf] at hi
          have HI := Lib.hid hi
          clear hf hi
          go_wp2_with fail
          refine (rDigits_any (m.natAbs + 1) m _ (by omega) HI.out.1 HI.out.2).mono ?_
          rintro e w1 ⟨rfl, hb1⟩
          have W1 := Lib.hid hb1
          clear hb1
          have hE : (Lib.itoa m == s.toList) = decide ((⟨(Lib.itoa m).toArray⟩ : ByteArray) = s) := itoa_beq m s
          by_cases h1 : (⟨(Lib.itoa m).toArray⟩ : ByteArray) = s
          · have H1 := Lib.hid h1
            rw [decide_eq_true h1] at hE
            clear h1
            go_wp2_with fail
            exact bodyPost_ret (v := .tuple #[.int .i64 m, .bool true]) (by simp [results, Tryd.results22, go_sem]) rfl ⟨m, true, rfl, HI.out, fun _ => H1.out, (fun h => by cases h), W1.out⟩
          · have H1 := Lib.hid h1
            rw [decide_eq_false h1] at hE
            clear h1
            by_cases hm : m = -9223372036854775808
            · have HN : Hid (NoNum s) := noNum_fold (by rw [← HF.out]; exact H1.out) (.inl (by rw [← HF.out]; exact hm))
              have hme : (m != -9223372036854775808) = false := by simp [hm]
              clear hm
              go_wp2_with fail
              exact bodyPost_ret (v := .tuple #[.int .i64 0, .bool false]) (by simp [results, Tryd.results22, go_sem]) rfl ⟨0, false, rfl, z64, (fun h => by cases h), fun _ => HN.out, W1.out⟩
            · have hme : (m != -9223372036854775808) = true := by simp [hm]
              have hng : wrap64 (-m) = -m := wrap_id ⟨by have := HI.out.2; omega, by have := HI.out.1; omega⟩
              have HJ : Hid (I64 (-m)) := ⟨by have := HI.out.2; omega, by have := HI.out.1; omega⟩
              have HM2 := Lib.hid hm
              clear hm
              go_wp2_with fail
              refine (rDigits_any ((-m).natAbs + 1) (-m) _ (by omega) HJ.out.1 HJ.out.2).mono ?_
              rintro e w2 ⟨rfl, hb2⟩
              have W2 := Lib.hid (thn W1.out hb2)
              clear hb2
              have hE2 : (Lib.itoa (-m) == s.toList) = decide ((⟨(Lib.itoa (-m)).toArray⟩ : ByteArray) = s) := itoa_beq (-m) s
              by_cases h2 : (⟨(Lib.itoa (-m)).toArray⟩ : ByteArray) = s
              · have H2 := Lib.hid h2
                rw [decide_eq_true h2] at hE2
                clear h2
                go_wp2_with fail
                exact bodyPost_ret (v := .tuple #[.int .i64 (-m), .bool true]) (by simp [results, Tryd.results22, go_sem, wrap_id (x := -m) HJ.out]) rfl ⟨-m, true, rfl, HJ.out, fun _ => H2.out, (fun h => by cases h), W2.out⟩
              · have HN : Hid (NoNum s) := noNum_fold (by rw [← HF.out]; exact H1.out) (.inr (by rw [← HF.out]; exact h2))
                rw [decide_eq_false h2] at hE2
                clear h2
                go_wp2_with fail
                exact bodyPost_ret (v := .tuple #[.int .i64 0, .bool false]) (by simp [results, Tryd.results22, go_sem]) rfl ⟨0, false, rfl, z64, (fun h => by cases h), fun _ => HN.out, W2.out⟩
end Go.Proofs.YtmhddoikicapjaaDoor
