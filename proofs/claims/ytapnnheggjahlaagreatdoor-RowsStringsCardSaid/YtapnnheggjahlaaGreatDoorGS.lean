/-
  RefP: CONTRACTS of the reference: Number, Parse.
  RefP2: CONTRACT of the reference: Parse.
  RefP3: CONTRACT of the reference: Parse, walked.
  RefP4: CONTRACT of the reference: Parse of what begins with a quote, walked; Parse of any string.
-/
import Derived.Test.YtapnnheggjahlaaGreatDoorGD
import Derived.Test.YtapnnheggjahlaaGreatDoorReg
import Derived.Deep.RegionHeld3
import Derived.Deep.CutBlock
namespace Go.Proofs.YtapnnheggjahlaaGreatDoor
open Go.RowKit

theorem step_i64 (n : Int) (c : UInt8) (h : I64 n) : I64 (numStep n c) := by
  unfold numStep
  split
  · unfold I64 wrap64; omega
  · exact h
theorem fold_i64 (l : List UInt8) : ∀ a, I64 a → I64 (l.foldl numStep a) := by
  induction l with
  | nil => intro a h; exact h
  | cons c l ih => intro a h; exact ih _ (step_i64 a c h)
theorem numFold_i64 (l : List UInt8) : I64 (numFold l) := fold_i64 l 0 ⟨by decide, by decide⟩
theorem numFold_snoc (l : List UInt8) (c : UInt8) : numFold (l ++ [c]) = numStep (numFold l) c := by
  unfold numFold
  rw [List.foldl_append]; rfl
theorem numFold_take (s : ByteArray) (j : Nat) (h : j < s.size) : numFold (s.data.toList.take (j + 1)) = numStep (numFold (s.data.toList.take j)) s[j] := by
  rw [take_snoc s j h, numFold_snoc]
theorem ba_of (s : ByteArray) : (⟨s.data.toList.toArray⟩ : ByteArray) = s := by
  obtain ⟨⟨l⟩⟩ := s; rfl
theorem itoa_size (n : Int) : (⟨(Lib.itoa n).toArray⟩ : ByteArray).size = (Lib.itoa n).length := by simp [ByteArray.size]
/-- no number has this string -/
def NoNum (s : ByteArray) : Prop := ∀ m, I64 m → (⟨(Lib.itoa m).toArray⟩ : ByteArray) ≠ s
theorem noNum_size {s : ByteArray} (h : s.size = 0 ∨ 20 < s.size) : NoNum s := fun m hm e => by
  have h1 := itoa_len m hm
  have h2 := itoa_size m
  rw [e] at h2
  omega
theorem noNum_fold {s : ByteArray} (h1 : (⟨(Lib.itoa (numFold s.data.toList)).toArray⟩ : ByteArray) ≠ s)
    (h2 : numFold s.data.toList = -9223372036854775808 ∨ (⟨(Lib.itoa (-numFold s.data.toList)).toArray⟩ : ByteArray) ≠ s) : NoNum s := fun m hm e => by
  have hf := fold_itoa m hm
  have e2 : s.data.toList = Lib.itoa m := by rw [← e]
  rw [e2, hf] at h1 h2
  obtain ⟨m0, m1⟩ := hm
  by_cases hn : m < 0
  · have e3 : -(m.natAbs : Int) = m := by omega
    rw [e3] at h1
    exact h1 e
  · have e3 : -(-(m.natAbs : Int)) = m := by omega
    rw [e3] at h2
    rcases h2 with h2 | h2
    · omega
    · exact h2 e
theorem beq_ba (a b : ByteArray) : (a.toList == b.toList) = decide (a = b) := by
  by_cases h : a = b
  · subst h; simp
  · rw [decide_eq_false h]
    rw [beq_eq_false_iff_ne]
    intro e
    rw [toList_eq, toList_eq] at e
    exact h (ba_list e)
theorem itoa_beq (m : Int) (s : ByteArray) : (Lib.itoa m == s.toList) = decide ((⟨(Lib.itoa m).toArray⟩ : ByteArray) = s) := by
  have h := beq_ba ⟨(Lib.itoa m).toArray⟩ s
  rw [ByteArray.toList_mk (Lib.itoa m)] at h
  exact h

set_option maxHeartbeats 800000 in
set_option maxRecDepth 100000 in
theorem rNumber_any (s : ByteArray) (w : World) (hs : s.size ≤ maxLen) :
    Calls Tryz.prog 157 #[.string s] w fun e w' => ∃ (n : Int) (b : Bool), e = .returned (.tuple #[.int .i64 n, .bool b]) ∧ I64 n ∧ (b = true → (⟨(Lib.itoa n).toArray⟩ : ByteArray) = s) ∧ (b = false → NoNum s) ∧ Below w.heap.size w w' := by
  have hs := Nat.le_trans hs (Nat.le_refl _)
  unfold maxLen at hs
  have z64 : I64 0 := ⟨by decide, by decide⟩
  by_cases h0 : s.size = 0
  · have HN := Lib.hid (noNum_size (s := s) (.inl h0))
    have e0 : ((s.size : Int) == 0) = true := by simp [h0]
    go_enter Tryz.func157, Tryz.ntmps157
    go_wp2_with fail
    exact bodyPost_ret (v := .tuple #[.int .i64 0, .bool false]) (by simp [results, Tryz.results157, go_sem]) rfl ⟨0, false, rfl, z64, (fun h => by cases h), fun _ => HN.out, Below.refl _ _⟩
  · have e0 : ((s.size : Int) == 0) = false := beq_eq_false_iff_ne.2 (by omega)
    by_cases h20 : 20 < s.size
    · have HN := Lib.hid (noNum_size (s := s) (.inr h20))
      have e20 : decide ((20 : Int) < (s.size : Int)) = true := by simp; omega
      go_enter Tryz.func157, Tryz.ntmps157
      go_wp2_with fail
      exact bodyPost_ret (v := .tuple #[.int .i64 0, .bool false]) (by simp [results, Tryz.results157, go_sem]) rfl ⟨0, false, rfl, z64, (fun h => by cases h), fun _ => HN.out, Below.refl _ _⟩
    · have e20 : decide ((20 : Int) < (s.size : Int)) = false := by simp; omega
      clear h0 h20
      go_enter Tryz.func157, Tryz.ntmps157
      go_wp2_with fail
      go_loop [4, 5] (fun n i => ∃ (j : Nat) (m : Int), j ≤ s.size ∧ i = .int .i64 j ∧ n = .int .i64 m ∧ Hid (m = numFold (s.data.toList.take j))) (fun _ i => s.size - (intOf i).toNat)
      case atStart => exact ⟨0, 0, Nat.zero_le _, rfl, rfl, rfl⟩
      case round =>
        obtain ⟨j, m, hj, rfl, rfl, HM⟩ := hrel
        have hj0 : (0 : Int) ≤ (j : Int) := by omega
        by_cases hlt : j < s.size
        · have hlti : (j : Int) < (s.size : Int) := by omega
          have ht := numFold_take s j hlt
          rw [← HM.out] at ht
          have hb := s[j].toNat_lt
          by_cases hd : 48 ≤ s[j].toNat ∧ s[j].toNat ≤ 57
          · obtain ⟨hd1, hd2⟩ := hd
            unfold numStep at ht
            rw [if_pos ⟨hd1, hd2⟩] at ht
            have HT := Lib.hid ht
            have g1 : (48 : Int) ≤ (s[j].toNat : Int) := by omega
            have g2 : (s[j].toNat : Int) ≤ 57 := by omega
            clear ht
            go_wp2_with fail
            go_round
            case rel => exact ⟨j + 1, _, by omega, by go_num, rfl, by show _ = _; rw [HT.out]⟩
            case measure => simp [intOf]; omega
          · unfold numStep at ht
            rw [if_neg hd] at ht
            have HT := Lib.hid ht
            clear ht
            by_cases hd1 : 48 ≤ s[j].toNat
            · have g1 : (48 : Int) ≤ (s[j].toNat : Int) := by omega
              have g2 : ¬ (s[j].toNat : Int) ≤ 57 := by omega
              go_wp2_with fail
              go_round
              case rel => exact ⟨j + 1, _, by omega, by go_num, rfl, HT.out.symm⟩
              case measure => simp [intOf]; omega
            · have g1 : ¬ (48 : Int) ≤ (s[j].toNat : Int) := by omega
              go_wp2_with fail
              go_round
              case rel => exact ⟨j + 1, _, by omega, by go_num, rfl, HT.out.symm⟩
              case measure => simp [intOf]; omega
        · have hf := HM.out
          rw [List.take_of_length_le (by simpa using hlt)] at hf
          have HF := Lib.hid hf
          have hi := numFold_i64 s.data.toList
          rw [← hf] at hi
          have HI := Lib.hid hi
          clear hf hi
          go_wp2_with fail
          refine (rDigits_any (m.natAbs + 1) m _ (by omega) HI.out.1 HI.out.2).mono ?_
          rintro e w1 ⟨rfl, hb1⟩
          have W1 := Lib.hid hb1
          clear hb1
          have hE : (Lib.itoa m == s.toList) = decide ((⟨(Lib.itoa m).toArray⟩ : ByteArray) = s) := itoa_beq m s
          by_cases h1 : (⟨(Lib.itoa m).toArray⟩ : ByteArray) = s
          · have H1 := Lib.hid h1
            rw [decide_eq_true h1] at hE
            clear h1
            go_wp2_with fail
            exact bodyPost_ret (v := .tuple #[.int .i64 m, .bool true]) (by simp [results, Tryz.results157, go_sem]) rfl ⟨m, true, rfl, HI.out, fun _ => H1.out, (fun h => by cases h), W1.out⟩
          · have H1 := Lib.hid h1
            rw [decide_eq_false h1] at hE
            clear h1
            by_cases hm : m = -9223372036854775808
            · have HN : Hid (NoNum s) := noNum_fold (by rw [← HF.out]; exact H1.out) (.inl (by rw [← HF.out]; exact hm))
              have hme : (m != -9223372036854775808) = false := by simp [hm]
              clear hm
              go_wp2_with fail
              exact bodyPost_ret (v := .tuple #[.int .i64 0, .bool false]) (by simp [results, Tryz.results157, go_sem]) rfl ⟨0, false, rfl, z64, (fun h => by cases h), fun _ => HN.out, W1.out⟩
            · have hme : (m != -9223372036854775808) = true := by simp [hm]
              have hng : wrap64 (-m) = -m := wrap_id ⟨by have := HI.out.2; omega, by have := HI.out.1; omega⟩
              have HJ : Hid (I64 (-m)) := ⟨by have := HI.out.2; omega, by have := HI.out.1; omega⟩
              have HM2 := Lib.hid hm
              clear hm
              go_wp2_with fail
              refine (rDigits_any ((-m).natAbs + 1) (-m) _ (by omega) HJ.out.1 HJ.out.2).mono ?_
              rintro e w2 ⟨rfl, hb2⟩
              have W2 := Lib.hid (thn W1.out hb2)
              clear hb2
              have hE2 : (Lib.itoa (-m) == s.toList) = decide ((⟨(Lib.itoa (-m)).toArray⟩ : ByteArray) = s) := itoa_beq (-m) s
              by_cases h2 : (⟨(Lib.itoa (-m)).toArray⟩ : ByteArray) = s
              · have H2 := Lib.hid h2
                rw [decide_eq_true h2] at hE2
                clear h2
                go_wp2_with fail
                exact bodyPost_ret (v := .tuple #[.int .i64 (-m), .bool true]) (by simp [results, Tryz.results157, go_sem, wrap_id (x := -m) HJ.out]) rfl ⟨-m, true, rfl, HJ.out, fun _ => H2.out, (fun h => by cases h), W2.out⟩
              · have HN : Hid (NoNum s) := noNum_fold (by rw [← HF.out]; exact H1.out) (.inr (by rw [← HF.out]; exact h2))
                rw [decide_eq_false h2] at hE2
                clear h2
                go_wp2_with fail
                exact bodyPost_ret (v := .tuple #[.int .i64 0, .bool false]) (by simp [results, Tryz.results157, go_sem]) rfl ⟨0, false, rfl, z64, (fun h => by cases h), fun _ => HN.out, W2.out⟩
end Go.Proofs.YtapnnheggjahlaaGreatDoor
namespace Go.Proofs.YtapnnheggjahlaaGreatDoor
open Go.RowKit

/-- what strings of values look like -/
theorem parses_cases {s : ByteArray} (h : parses s = true) : s = sNull ∨ s = sFalse ∨ s = sTrue ∨ (∃ n, I64 n ∧ (⟨(Lib.itoa n).toArray⟩ : ByteArray) = s) ∨ (∃ l : List UInt8, okText l = true ∧ s.data.toList = 39 :: (quote l ++ [39])) := by
  obtain ⟨h1, h2⟩ := (parses_iff s).1 h
  have hi := readV_i64 s
  rcases hx : readV s with ⟨k, n, q⟩
  rw [hx] at h1 h2 hi
  rcases ok_cases h1 with ⟨e1, e2, e3⟩ | ⟨e1, e2⟩ | ⟨e1, e2, e3⟩ | ⟨e1, e2, e3⟩ | ⟨e1, e2, ht⟩
  · subst e1 e2 e3; exact .inl h2.symm
  · subst e1 e2; exact .inr (.inr (.inr (.inl ⟨n, hi, h2⟩)))
  · subst e1 e2 e3; exact .inr (.inl h2.symm)
  · subst e1 e2 e3; exact .inr (.inr (.inl h2.symm))
  · subst e1 e2
    rw [strB_text] at h2
    exact .inr (.inr (.inr (.inr ⟨q.data.toList, ht, by rw [← h2]⟩)))
theorem parses_null : parses sNull = true ∧ readV sNull = ⟨0, 0, ⟨#[]⟩⟩ :=
  ⟨parses_strB 0 0 ⟨#[]⟩ (by decide) ⟨by decide, by decide⟩, readV_strB 0 0 ⟨#[]⟩ (by decide) ⟨by decide, by decide⟩⟩
theorem parses_false : parses sFalse = true ∧ readV sFalse = ⟨2, 0, ⟨#[]⟩⟩ :=
  ⟨parses_strB 2 0 ⟨#[]⟩ (by decide) ⟨by decide, by decide⟩, readV_strB 2 0 ⟨#[]⟩ (by decide) ⟨by decide, by decide⟩⟩
theorem parses_true : parses sTrue = true ∧ readV sTrue = ⟨2, 1, ⟨#[]⟩⟩ :=
  ⟨parses_strB 2 1 ⟨#[]⟩ (by decide) ⟨by decide, by decide⟩, readV_strB 2 1 ⟨#[]⟩ (by decide) ⟨by decide, by decide⟩⟩
theorem parses_num (n : Int) (h : I64 n) : parses ⟨(Lib.itoa n).toArray⟩ = true ∧ readV ⟨(Lib.itoa n).toArray⟩ = ⟨1, n, ⟨#[]⟩⟩ :=
  ⟨parses_strB 1 n ⟨#[]⟩ rfl h, readV_strB 1 n ⟨#[]⟩ rfl h⟩
theorem itoa_no39 (n : Int) (r : List UInt8) : Lib.itoa n ≠ 39 :: r := fun e => by
  obtain ⟨c, t, hc, hh⟩ := itoa_head n
  rw [hc] at e
  injection e with e1 _
  subst e1
  revert hh; decide
/-- what the reference has put together, if the string is one of a text -/
def Inv (s : ByteArray) (q : List UInt8) (a : Nat) : Prop := ∀ l : List UInt8, s.data.toList = 39 :: (quote l ++ [39]) → l.length ≤ 200 → ∃ r, l = q ++ r ∧ a = 1 + (quote q).length
theorem Inv.start (s : ByteArray) : Inv s [] 1 := fun l _ _ => ⟨l, rfl, rfl⟩
theorem Inv.step {s : ByteArray} {q : List UInt8} {a : Nat} (h : Inv s q a) (ha : a < s.size) (hlt : a + 1 < s.size) : Inv s (q ++ [s[a]]) (if s[a] = 39 then a + 2 else a + 1) := fun l hl h200 => by
  obtain ⟨r, hr, hq⟩ := h l hl h200
  have hsz : s.data.toList.length = s.size := Array.length_toList
  have hg : s.data.toList[a]? = some s[a] := List.getElem?_eq_getElem (by omega)
  generalize s[a] = x at hg ⊢
  cases r with
  | nil =>
    rw [List.append_nil] at hr
    subst hr
    rw [hl] at hsz
    simp at hsz
    omega
  | cons c r =>
    have e1 : s.data.toList = (39 :: quote q) ++ (quote (c :: r) ++ [39]) := by
      rw [hl, hr, quote_append]; simp
    have e2 : (39 :: quote q).length = a := by simp; omega
    rw [e1, List.getElem?_append_right (by omega), e2, Nat.sub_self, quote_cons] at hg
    have e3 : x = c := by
      by_cases h39 : c = 39
      · rw [if_pos h39] at hg
        simp at hg
        rw [h39, hg]
      · rw [if_neg h39] at hg
        simp at hg
        exact hg.symm
    refine ⟨r, by rw [e3, hr]; simp, ?_⟩
    have e4 : quote [] = [] := rfl
    rw [e3, quote_append, quote_cons, e4]
    split
    · simp; omega
    · simp; omega
theorem Inv.done {s : ByteArray} {q : List UInt8} {a : Nat} (h : Inv s q a) (hend : s.size ≤ a + 1 ∨ 200 < q.length) {l : List UInt8} (hl : s.data.toList = 39 :: (quote l ++ [39])) (h200 : l.length ≤ 200) : l = q := by
  obtain ⟨r, hr, hq⟩ := h l hl h200
  have hsz : s.data.toList.length = s.size := Array.length_toList
  cases r with
  | nil => rw [hr, List.append_nil]
  | cons c r =>
    rw [hl, hr, quote_append, quote_cons] at hsz
    have hl2 : l.length = q.length + (r.length + 1) := by rw [hr]; simp
    rcases hend with h1 | h1
    · exfalso
      revert hsz
      split <;> simp <;> omega
    · omega

/-- the answer of the reference is the program's -/
def Ans (s : ByteArray) (x : V) (b : Bool) : Prop := (b = true → parses s = true ∧ readV s = x) ∧ (b = false → parses s = false)
theorem Ans.bytes {s : ByteArray} {q : ByteArray} (ht : okText q.data.toList = true) (e : (⟨(39 :: (quote q.data.toList ++ [39])).toArray⟩ : ByteArray) = s) : parses s = true ∧ readV s = ⟨3, 0, q⟩ := by
  rw [← strB_text] at e
  subst e
  exact ⟨parses_strB 3 0 q ht ⟨by decide, by decide⟩, readV_strB 3 0 q ht ⟨by decide, by decide⟩⟩
theorem no_text {s : ByteArray} {q : ByteArray} (h39 : s.data.toList.head? = some 39) (hd : ∀ l : List UInt8, s.data.toList = 39 :: (quote l ++ [39]) → l.length ≤ 200 → l = q.data.toList)
    (hb : okText q.data.toList = false ∨ (⟨(39 :: (quote q.data.toList ++ [39])).toArray⟩ : ByteArray) ≠ s) : parses s = false := by
  cases hp : parses s with
  | false => rfl
  | true =>
    exfalso
    rcases parses_cases hp with e | e | e | ⟨n, _, e⟩ | ⟨l, hl, e⟩
    · subst e; revert h39; decide
    · subst e; revert h39; decide
    · subst e; revert h39; decide
    · subst e
      obtain ⟨c, r, hc, hh⟩ := itoa_head n
      have h2 : (Lib.itoa n).head? = some 39 := h39
      rw [hc] at h2
      simp at h2
      subst h2
      revert hh; decide
    · have h200 : l.length ≤ 200 := by unfold okText at hl; simp at hl; exact hl.1
      have e2 := hd l e h200
      subst e2
      rcases hb with hb | hb
      · rw [hl] at hb; cases hb
      · exact hb (ba_list e.symm)
theorem no_num {s : ByteArray} (hn : NoNum s) (h0 : s ≠ sNull) (h1 : s ≠ sFalse) (h2 : s ≠ sTrue) (h39 : s.data.toList.head? ≠ some 39) : parses s = false := by
  cases hp : parses s with
  | false => rfl
  | true =>
    exfalso
    rcases parses_cases hp with e | e | e | ⟨n, hi, e⟩ | ⟨l, hl, e⟩
    · exact h0 e
    · exact h1 e
    · exact h2 e
    · exact hn n hi e
    · exact h39 (by rw [e]; rfl)
theorem head_at (s : ByteArray) (h : 0 < s.size) : s.data.toList.head? = some (s[0]'h) := by
  have hsz : s.data.toList.length = s.size := Array.length_toList
  rw [List.head?_eq_getElem?]
  exact List.getElem?_eq_getElem (by omega)
end Go.Proofs.YtapnnheggjahlaaGreatDoor
namespace Go.Proofs.YtapnnheggjahlaaGreatDoor
open Go.RowKit

theorem beq_null (s : ByteArray) : (s.toList == [110, 117, 108, 108]) = decide (s = sNull) := by
  have h := beq_ba s sNull
  rw [toList_eq sNull] at h
  exact h
theorem beq_true (s : ByteArray) : (s.toList == [116, 114, 117, 101]) = decide (s = sTrue) := by
  have h := beq_ba s sTrue
  rw [toList_eq sTrue] at h
  exact h
theorem beq_false (s : ByteArray) : (s.toList == [102, 97, 108, 115, 101]) = decide (s = sFalse) := by
  have h := beq_ba s sFalse
  rw [toList_eq sFalse] at h
  exact h
theorem ansP (s : ByteArray) {x : V} (h : parses s = true ∧ readV s = x) : Ans s x true := ⟨fun _ => h, (fun h => by cases h)⟩
set_option maxHeartbeats 1000000 in
set_option maxRecDepth 100000 in
theorem rParse_num (s : ByteArray) (w : World) (hs : s.size ≤ 20000) (h0 : s ≠ sNull) (h1 : s ≠ sFalse) (h2 : s ≠ sTrue) (h39 : s.data.toList.head? ≠ some 39) :
    Calls Tryz.prog 129 #[.string s] w fun e w' => ∃ (x : V) (b : Bool), e = .returned (.tuple #[.agg #[.int .i64 x.k, .int .i64 x.n, .string x.s], .bool b]) ∧ Ans s x b ∧ Below w.heap.size w w' := by
  have HN := Lib.hid (fun h => no_num (s := s) h h0 h1 h2 h39)
  have e0 : (s.toList == [110, 117, 108, 108]) = false := by rw [beq_null]; exact decide_eq_false h0
  have e1 : (s.toList == [116, 114, 117, 101]) = false := by rw [beq_true]; exact decide_eq_false h2
  have e2 : (s.toList == [102, 97, 108, 115, 101]) = false := by rw [beq_false]; exact decide_eq_false h1
  have HS := Lib.hid hs
  have R0 := Blk.new' (w := w) (g := w.heap.size) (t := 78) (cs := #[.int .i64 0, .int .i64 0, .string ⟨#[]⟩]) rfl
  have hlt0 : w.heap.size < (w.alloc (.cells #[.int .i64 0, .int .i64 0, .string ⟨#[]⟩] 78)).heap.size := by simp
  clear h0 h1 h2 hs
  by_cases hz : 0 < s.size
  · have hc : ¬ s[0] = 39 := fun e => h39 (by rw [head_at s hz, e])
    have hcc : ((s[0].toNat : Int) == 39) = false := by
      rw [beq_eq_false_iff_ne]
      intro e
      exact hc (UInt8.toNat_inj.1 (by show s[0].toNat = 39; omega))
    clear h39 hc
    go_enter Tryz.func129, Tryz.ntmps129
    go_wp2_with fail
    refine (rNumber_any s _ (by have := HS.out; unfold maxLen; omega)).mono ?_
    rintro e w1 ⟨n, b, rfl, hn, hb1, hb2, hB⟩
    have HA : Hid (Ans s ⟨1, n, ⟨#[]⟩⟩ b) := ⟨fun h => by
      have e := hb1 h
      rw [← e]
      exact parses_num n hn, fun h => HN.out (hb2 h)⟩
    have W1 := Lib.hid (thn (al (Below.refl _ w) _) hB)
    have R1 := R0.below hB hlt0
    clear hb1 hb2 hB hn
    go_wp2_with fail
    refine (rInt_any n _).mono ?_
    rintro e w2 ⟨rfl, hB⟩
    have W2 := Lib.hid (thn W1.out hB)
    obtain ⟨⟨r0, r1, r2⟩, f0, f1, f2⟩ := (R1.below hB R1.lt).three
    clear hB R1 R0
    go_wp2_with fail
    exact bodyPost_ret (v := .tuple #[.agg #[.int .i64 1, .int .i64 n, .string ⟨#[]⟩], .bool b]) (by simp [results, Tryz.results129, go_sem, r0, r1, r2]) rfl ⟨⟨1, n, ⟨#[]⟩⟩, b, rfl, HA.out, st3 W2.out (Nat.le_refl _) _ _ _⟩
  · clear h39
    go_enter Tryz.func129, Tryz.ntmps129
    go_wp2_with fail
    refine (rNumber_any s _ (by have := HS.out; unfold maxLen; omega)).mono ?_
    rintro e w1 ⟨n, b, rfl, hn, hb1, hb2, hB⟩
    have HA : Hid (Ans s ⟨1, n, ⟨#[]⟩⟩ b) := ⟨fun h => by
      have e := hb1 h
      rw [← e]
      exact parses_num n hn, fun h => HN.out (hb2 h)⟩
    have W1 := Lib.hid (thn (al (Below.refl _ w) _) hB)
    have R1 := R0.below hB hlt0
    clear hb1 hb2 hB hn
    go_wp2_with fail
    refine (rInt_any n _).mono ?_
    rintro e w2 ⟨rfl, hB⟩
    have W2 := Lib.hid (thn W1.out hB)
    obtain ⟨⟨r0, r1, r2⟩, f0, f1, f2⟩ := (R1.below hB R1.lt).three
    clear hB R1 R0
    go_wp2_with fail
    exact bodyPost_ret (v := .tuple #[.agg #[.int .i64 1, .int .i64 n, .string ⟨#[]⟩], .bool b]) (by simp [results, Tryz.results129, go_sem, r0, r1, r2]) rfl ⟨⟨1, n, ⟨#[]⟩⟩, b, rfl, HA.out, st3 W2.out (Nat.le_refl _) _ _ _⟩

set_option maxHeartbeats 1000000 in
set_option maxRecDepth 100000 in
theorem rParse_word (s : ByteArray) (w : World) (h : s = sNull ∨ s = sFalse ∨ s = sTrue) :
    Calls Tryz.prog 129 #[.string s] w fun e w' => ∃ (x : V) (b : Bool), e = .returned (.tuple #[.agg #[.int .i64 x.k, .int .i64 x.n, .string x.s], .bool b]) ∧ Ans s x b ∧ Below w.heap.size w w' := by
  have R0 := Blk.new' (w := w) (g := w.heap.size) (t := 78) (cs := #[.int .i64 0, .int .i64 0, .string ⟨#[]⟩]) rfl
  have hlt0 : w.heap.size < (w.alloc (.cells #[.int .i64 0, .int .i64 0, .string ⟨#[]⟩] 78)).heap.size := by simp
  rcases h with rfl | rfl | rfl
  · have e0 : (sNull.toList == [110, 117, 108, 108]) = true := by rw [beq_null]; decide
    have HA := Lib.hid (ansP sNull parses_null)
    obtain ⟨⟨r0, r1, r2⟩, f0, f1, f2⟩ := R0.three
    go_enter Tryz.func129, Tryz.ntmps129
    go_wp2_with fail
    exact bodyPost_ret (v := .tuple #[.agg #[.int .i64 0, .int .i64 0, .string ⟨#[]⟩], .bool true]) (by simp [results, Tryz.results129, go_sem, r0, r1, r2]) rfl ⟨⟨0, 0, ⟨#[]⟩⟩, true, rfl, HA.out, al (Below.refl _ _) _⟩
  · have e0 : (sFalse.toList == [110, 117, 108, 108]) = false := by rw [beq_null]; decide
    have e1 : (sFalse.toList == [116, 114, 117, 101]) = false := by rw [beq_true]; decide
    have e2 : (sFalse.toList == [102, 97, 108, 115, 101]) = true := by rw [beq_false]; decide
    have HA := Lib.hid (ansP sFalse parses_false)
    go_enter Tryz.func129, Tryz.ntmps129
    go_wp2_with fail
    refine (rBool_any false _).mono ?_
    rintro e w1 ⟨rfl, hB⟩
    have W1 := Lib.hid (thn (al (Below.refl _ w) _) hB)
    obtain ⟨⟨r0, r1, r2⟩, f0, f1, f2⟩ := (R0.below hB hlt0).three
    clear hB R0
    go_wp2_with fail
    exact bodyPost_ret (v := .tuple #[.agg #[.int .i64 2, .int .i64 0, .string ⟨#[]⟩], .bool true]) (by simp [results, Tryz.results129, go_sem, r0, r1, r2, b2i]) rfl ⟨⟨2, 0, ⟨#[]⟩⟩, true, rfl, HA.out, st3 W1.out (Nat.le_refl _) _ _ _⟩
  · have e0 : (sTrue.toList == [110, 117, 108, 108]) = false := by rw [beq_null]; decide
    have e1 : (sTrue.toList == [116, 114, 117, 101]) = true := by rw [beq_true]; decide
    have HA := Lib.hid (ansP sTrue parses_true)
    go_enter Tryz.func129, Tryz.ntmps129
    go_wp2_with fail
    refine (rBool_any true _).mono ?_
    rintro e w1 ⟨rfl, hB⟩
    have W1 := Lib.hid (thn (al (Below.refl _ w) _) hB)
    obtain ⟨⟨r0, r1, r2⟩, f0, f1, f2⟩ := (R0.below hB hlt0).three
    clear hB R0
    go_wp2_with fail
    exact bodyPost_ret (v := .tuple #[.agg #[.int .i64 2, .int .i64 1, .string ⟨#[]⟩], .bool true]) (by simp [results, Tryz.results129, go_sem, r0, r1, r2, b2i]) rfl ⟨⟨2, 1, ⟨#[]⟩⟩, true, rfl, HA.out, st3 W1.out (Nat.le_refl _) _ _ _⟩
end Go.Proofs.YtapnnheggjahlaaGreatDoor
namespace Go.Proofs.YtapnnheggjahlaaGreatDoor
open Go.RowKit

set_option maxHeartbeats 2000000 in
set_option maxRecDepth 100000 in
theorem rParse_text (s : ByteArray) (w : World) (hs : s.size ≤ 20000) (h0 : s ≠ sNull) (h1 : s ≠ sFalse) (h2 : s ≠ sTrue) (hz : 0 < s.size) (h39 : s[0] = 39) :
    Calls Tryz.prog 129 #[.string s] w fun e w' => ∃ (x : V) (b : Bool), e = .returned (.tuple #[.agg #[.int .i64 x.k, .int .i64 x.n, .string x.s], .bool b]) ∧ Ans s x b ∧ Below w.heap.size w w' := by
  have e0 : (s.toList == [110, 117, 108, 108]) = false := by rw [beq_null]; exact decide_eq_false h0
  have e1 : (s.toList == [116, 114, 117, 101]) = false := by rw [beq_true]; exact decide_eq_false h2
  have e2 : (s.toList == [102, 97, 108, 115, 101]) = false := by rw [beq_false]; exact decide_eq_false h1
  have HS := Lib.hid hs
  have HH : Hid (s.data.toList.head? = some 39) := by rw [← h39]; exact head_at s hz
  have hcc : ((s[0].toNat : Int) == 39) = true := by rw [h39]; rfl
  have R0 := Blk.new' (w := w) (g := w.heap.size) (t := 78) (cs := #[.int .i64 0, .int .i64 0, .string ⟨#[]⟩]) rfl
  have W0 := Lib.hid (al (Below.refl w.heap.size w) (.cells #[.int .i64 0, .int .i64 0, .string ⟨#[]⟩] 78))
  clear h0 h1 h2 h39
  go_enter Tryz.func129, Tryz.ntmps129
  go_upto_block 0 with fail
  generalize hw0 : w.alloc (.cells #[.int .i64 0, .int .i64 0, .string ⟨#[]⟩] 78) = w0 at *
  clear hw0
  go_cut [4, 5] (fun t _ wx => ∃ q : ByteArray, t = .string q ∧ q.size ≤ 201 ∧ Hid (∀ l : List UInt8, s.data.toList = 39 :: (quote l ++ [39]) → l.length ≤ 200 → l = q.data.toList) ∧ wx = w0)
  case first =>
    go_wp2_with fail
    go_loop [4, 5] (fun t i => ∃ (q : ByteArray) (a : Nat), t = .string q ∧ i = .int .i64 a ∧ 1 ≤ a ∧ a ≤ s.size ∧ q.size ≤ 201 ∧ Hid (Inv s q.data.toList a)) (fun _ i => s.size - (intOf i).toNat)
    case atStart => exact ⟨_, 1, rfl, rfl, Nat.le_refl _, hz, by decide, Inv.start s⟩
    case round =>
      obtain ⟨q, a, rfl, rfl, ha1, ha2, hq, HI⟩ := hrel
      by_cases hlt : a + 1 < s.size
      · have hlti : (a : Int) < (s.size : Int) - 1 := by omega
        by_cases hq2 : q.size ≤ 200
        · have hqi : (q.size : Int) ≤ 200 := by omega
          have hla : a < s.size := by omega
          have hx := extract_one s a hla
          have HX := Lib.hid hx
          have hxs : (s.extract a (a + 1)).size = 1 := by
            rw [ByteArray.size_extract]; omega
          have hst := HI.out.step hla hlt
          clear hx
          by_cases hc : s[a] = 39
          · have ec : ((s[a].toNat : Int) == 39) = true := by simp [hc]
            rw [if_pos hc] at hst
            have HT := Lib.hid hst
            clear hst hc
            go_wp2_with fail
            go_round
            case rel =>
              refine ⟨_, a + 2, rfl, by go_num, by omega, by omega, by rw [ByteArray.size_append, hxs]; omega, ?_⟩
              show Inv s _ _
              rw [ByteArray.data_append, Array.toList_append, HX.out]
              exact HT.out
            case measure => simp [intOf]; omega
          · have ec : ((s[a].toNat : Int) == 39) = false := by
              rw [beq_eq_false_iff_ne]
              intro e
              exact hc (UInt8.toNat_inj.1 (by show s[a].toNat = 39; omega))
            rw [if_neg hc] at hst
            have HT := Lib.hid hst
            clear hst hc
            go_wp2_with fail
            go_round
            case rel =>
              refine ⟨_, a + 1, rfl, by go_num, by omega, by omega, by rw [ByteArray.size_append, hxs]; omega, ?_⟩
              show Inv s _ _
              rw [ByteArray.data_append, Array.toList_append, HX.out]
              exact HT.out
            case measure => simp [intOf]; omega
        · have hqi : ¬ (q.size : Int) ≤ 200 := by omega
          have HD : Hid (∀ l : List UInt8, s.data.toList = 39 :: (quote l ++ [39]) → l.length ≤ 200 → l = q.data.toList) := fun l hl h200 => HI.out.done (.inr (by have : q.data.toList.length = q.size := Array.length_toList; omega)) hl h200
          go_wp2_with fail
          go_meet
          case rel => exact ⟨q, rfl, hq, HD, rfl⟩
      · have hlti : ¬ (a : Int) < (s.size : Int) - 1 := by omega
        have HD : Hid (∀ l : List UInt8, s.data.toList = 39 :: (quote l ++ [39]) → l.length ≤ 200 → l = q.data.toList) := fun l hl h200 => HI.out.done (.inl (by omega)) hl h200
        go_wp2_with fail
        go_meet
        case rel => exact ⟨q, rfl, hq, HD, rfl⟩
  case rest =>
    obtain ⟨q, rfl, hq, HD, hwx⟩ := hcut
    subst hwx
    rename_i w0
    go_wp2_with fail
    refine (rText_any q _).mono ?_
    rintro e w1 ⟨rfl, hB⟩
    have W1 := Lib.hid (thn W0.out hB)
    have R1 := R0.below hB R0.lt
    have hgv : w.heap.size < w1.heap.size := R1.lt
    clear hB R0 W0
    go_upto_region 14 with fail
    have V2 := Blk.new' (w := w1) (g := w1.heap.size) (t := 78) (cs := #[.int .i64 3, .int .i64 0, .string q]) rfl
    have R2 := R1.alloc (.cells #[.int .i64 3, .int .i64 0, .string q] 78)
    have W2 := Lib.hid (al W1.out (.cells #[.int .i64 3, .int .i64 0, .string q] 78))
    clear R1 W1
    generalize w1.alloc (.cells #[.int .i64 3, .int .i64 0, .string q] 78) = w2 at *
    have hqm : q.size ≤ maxLen := by unfold maxLen; omega
    have hqk : q.size ≤ 1000000 := by omega
    obtain ⟨⟨v0, v1, v2⟩, vx⟩ := V2.three
    obtain ⟨⟨r0, r1, r2⟩, f0, f1, f2⟩ := R2.three
    clear vx
    go_cut [3, 56, 57, 58, 59, 60, 61, 62, 63, 64] (fun b _ _ _ _ _ _ _ _ _ wx => ∃ B : Bool, b = .bool B ∧ Hid (Ans s ⟨3, 0, q⟩ B) ∧ Hid (Below w.heap.size w wx) ∧ Blk wx w.heap.size 78 #[.int .i64 3, .int .i64 0, .string q])
    case first =>
      by_cases hok : okVal 3 0 q.data.toList = true
      · have HOK := Lib.hid hok
        have htx : okText q.data.toList = true := hok
        have hE := beq_ba ⟨(39 :: (quote q.data.toList ++ [39])).toArray⟩ s
        rw [ByteArray.toList_mk (39 :: (quote q.data.toList ++ [39]))] at hE
        have HA : Hid (Ans s ⟨3, 0, q⟩ (decide ((⟨(39 :: (quote q.data.toList ++ [39])).toArray⟩ : ByteArray) = s))) :=
          ⟨fun h => Ans.bytes htx (of_decide_eq_true h), fun h => no_text HH.out HD.out (.inr (of_decide_eq_false h))⟩
        generalize decide ((⟨(39 :: (quote q.data.toList ++ [39])).toArray⟩ : ByteArray) = s) = B at hE HA
        clear hok htx
        first
        | (go_region_with (first
            | (go_at_call 86; refine (Right_any 3 0 q _ hqm).mono ?_; rintro e w3 ⟨rfl, hB3⟩; rw [HOK.out]; have hB4 : Below w2.heap.size w2 w3 := ⟨hB3.os, hB3.tape, hB3.output, hB3.size, hB3.block⟩; have R3 := R2.below hB4 R2.lt; have V3 := V2.below hB4 V2.lt; have W3 := Lib.hid (thn W2.out hB4); obtain ⟨⟨s0, s1, s2⟩, g0, g1, g2⟩ := R3.three; obtain ⟨⟨u0, u1, u2⟩, ux⟩ := V3.three; clear ux hB3 hB4 R2 V2 W2 v0 v1 v2 r0 r1 r2 f0 f1 f2)
            | (go_at_call 102; refine (rString_text 0 q _ hqk).mono ?_; rintro e w4 ⟨rfl, hB3⟩; have hB4 : Below w3.heap.size w3 w4 := ⟨hB3.os, hB3.tape, hB3.output, hB3.size, hB3.block⟩; have R4 := R3.below hB4 R3.lt; have V4 := V3.below hB4 V3.lt; have W4 := Lib.hid (thn W3.out hB4); obtain ⟨⟨s0, s1, s2⟩, g0, g1, g2⟩ := R4.three; obtain ⟨⟨u0, u1, u2⟩, ux⟩ := V4.three; clear ux hB3 hB4 R3 V3 W3)))
        | fail
        all_goals go_wp2_with fail
        all_goals go_meet
        all_goals exact ⟨B, rfl, HA.out, st3 W4.out (Nat.le_refl _) _ _ _, R4.three_set _ _ _⟩
      · have hok0 : okVal 3 0 q.data.toList = false := by simpa using hok
        have HOK := Lib.hid hok0
        have HA : Hid (Ans s ⟨3, 0, q⟩ false) := ⟨(fun h => by cases h), fun _ => no_text HH.out HD.out (.inl hok0)⟩
        clear hok hok0
        first
        | (go_region_with (go_at_call 86; refine (Right_any 3 0 q _ hqm).mono ?_; rintro e w3 ⟨rfl, hB3⟩; rw [HOK.out]; have hB4 : Below w2.heap.size w2 w3 := ⟨hB3.os, hB3.tape, hB3.output, hB3.size, hB3.block⟩; have R3 := R2.below hB4 R2.lt; have V3 := V2.below hB4 V2.lt; have W3 := Lib.hid (thn W2.out hB4); obtain ⟨⟨s0, s1, s2⟩, g0, g1, g2⟩ := R3.three; obtain ⟨⟨u0, u1, u2⟩, ux⟩ := V3.three; clear ux hB3 hB4 R2 V2 W2 v0 v1 v2 r0 r1 r2 f0 f1 f2))
        | fail
        all_goals go_wp2_with fail
        all_goals go_meet
        all_goals exact ⟨false, rfl, HA.out, st3 W3.out (Nat.le_refl _) _ _ _, R3.three_set _ _ _⟩
    case rest =>
      obtain ⟨B, rfl, HA, HB, BR⟩ := hcut
      obtain ⟨⟨k0, k1, k2⟩, f0, f1, f2⟩ := BR.three
      go_wp2_with fail
      exact bodyPost_ret (v := .tuple #[.agg #[.int .i64 3, .int .i64 0, .string q], .bool B]) (by simp [results, Tryz.results129, go_sem, k0, k1, k2]) rfl ⟨⟨3, 0, q⟩, B, rfl, HA.out, HB.out⟩

theorem rParse_any (s : ByteArray) (w : World) (hs : s.size ≤ 20000) :
    Calls Tryz.prog 129 #[.string s] w fun e w' => ∃ (x : V) (b : Bool), e = .returned (.tuple #[.agg #[.int .i64 x.k, .int .i64 x.n, .string x.s], .bool b]) ∧ Ans s x b ∧ Below w.heap.size w w' := by
  by_cases h0 : s = sNull
  · exact rParse_word s w (.inl h0)
  · by_cases h1 : s = sFalse
    · exact rParse_word s w (.inr (.inl h1))
    · by_cases h2 : s = sTrue
      · exact rParse_word s w (.inr (.inr h2))
      · by_cases h39 : s.data.toList.head? = some 39
        · have hz : 0 < s.size := by
            have hsz : s.data.toList.length = s.size := Array.length_toList
            cases hl : s.data.toList with
            | nil => rw [hl] at h39; cases h39
            | cons c r => rw [hl] at hsz; simp at hsz; omega
          have e := head_at s hz
          rw [h39] at e
          exact rParse_text s w hs h0 h1 h2 hz (Option.some.inj e).symm
        · exact rParse_num s w hs h0 h1 h2 h39
end Go.Proofs.YtapnnheggjahlaaGreatDoor
