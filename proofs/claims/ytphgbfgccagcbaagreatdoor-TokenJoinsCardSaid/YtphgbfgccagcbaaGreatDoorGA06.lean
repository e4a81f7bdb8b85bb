/-
  RefP: CONTRACTS of the reference: Number, Parse.
  RefP2: CONTRACT of the reference: Parse.
  RefP3: CONTRACT of the reference: Parse, walked.
  RefP4: CONTRACT of the reference: Parse of what begins with a quote, walked; Parse of any string.
  TokA: CONTRACTS of the references' InName, small, Formed: bytes and forms of names.
  TokB: CONTRACT of the reference's quoted: how long the text at the beginning of a string is.
  TokC: CONTRACTS of the references' Words, IsWord, IsName, signs: the words and the signs.
  TokD: CONTRACTS of the references' IsWord, IsName; lists of strings in memory.
  TokE: CONTRACT of the reference's one, at a text: the token with which a string begins.
  GT: WHAT THE PACKAGE-LEVEL VARIABLES HOLD, as package token's contracts ask it.
-/
import Derived.Test.YtphgbfgccagcbaaGreatDoorGA04
import Derived.Test.YtphgbfgccagcbaaGreatDoorReg
import Derived.Deep.RegionHeld3
import Derived.Deep.CutBlock
import Derived.Test.YtphgbfgccagcbaaGreatDoorGA01
import Derived.Deep.Light
import Derived.Test.YtphgbfgccagcbaaGreatDoorGA03
import Derived.Lib.LaidTab
import Derived.Lib.Space
namespace Go.Proofs.YtphgbfgccagcbaaGreatDoor
open Go.RowKit

theorem step_i64 (n : Int) (c : UInt8) (h : I64 n) : I64 (numStep n c) := by
  unfold numStep
  split
  · unfold I64 wrap64; omega
  · exact h
theorem fold_i64 (l : List UInt8) : ∀ a, I64 a → I64 (l.foldl numStep a) := by
  induction l with
  | nil => intro a h; exact h
  | cons c l ih => intro a h; exact ih _ (step_i64 a c h)
theorem numFold_i64 (l : List UInt8) : I64 (numFold l) := fold_i64 l 0 ⟨by decide, by decide⟩
theorem numFold_snoc (l : List UInt8) (c : UInt8) : numFold (l ++ [c]) = numStep (numFold l) c := by
  unfold numFold
  rw [List.foldl_append]; rfl
theorem numFold_take (s : ByteArray) (j : Nat) (h : j < s.size) : numFold (s.data.toList.take (j + 1)) = numStep (numFold (s.data.toList.take j)) s[j] := by
  rw [take_snoc s j h, numFold_snoc]
theorem ba_of (s : ByteArray) : (⟨s.data.toList.toArray⟩ : ByteArray) = s := by
  obtain ⟨⟨l⟩⟩ := s; rfl
theorem itoa_size (n : Int) : (⟨(Lib.itoa n).toArray⟩ : ByteArray).size = (Lib.itoa n).length := by simp [ByteArray.size]
/-- no number has this string -/
def NoNum (s : ByteArray) : Prop := ∀ m, I64 m → (⟨(Lib.itoa m).toArray⟩ : ByteArray) ≠ s
theorem noNum_size {s : ByteArray} (h : s.size = 0 ∨ 20 < s.size) : NoNum s := fun m hm e => by
  have h1 := itoa_len m hm
  have h2 := itoa_size m
  rw [e] at h2
  omega
theorem noNum_fold {s : ByteArray} (h1 : (⟨(Lib.itoa (numFold s.data.toList)).toArray⟩ : ByteArray) ≠ s)
    (h2 : numFold s.data.toList = -9223372036854775808 ∨ (⟨(Lib.itoa (-numFold s.data.toList)).toArray⟩ : ByteArray) ≠ s) : NoNum s := fun m hm e => by
  have hf := fold_itoa m hm
  have e2 : s.data.toList = Lib.itoa m := by rw [← e]
  rw [e2, hf] at h1 h2
  obtain ⟨m0, m1⟩ := hm
  by_cases hn : m < 0
  · have e3 : -(m.natAbs : Int) = m := by omega
    rw [e3] at h1
    exact h1 e
  · have e3 : -(-(m.natAbs : Int)) = m := by omega
    rw [e3] at h2
    rcases h2 with h2 | h2
    · omega
    · exact h2 e
theorem beq_ba (a b : ByteArray) : (a.toList == b.toList) = decide (a = b) := by
  by_cases h : a = b
  · subst h; simp
  · rw [decide_eq_false h]
    rw [beq_eq_false_iff_ne]
    intro e
    rw [toList_eq, toList_eq] at e
    exact h (ba_list e)
theorem itoa_beq (m : Int) (s : ByteArray) : (Lib.itoa m == s.toList) = decide ((⟨(Lib.itoa m).toArray⟩ : ByteArray) = s) := by
  have h := beq_ba ⟨(Lib.itoa m).toArray⟩ s
  rw [ByteArray.toList_mk (Lib.itoa m)] at h
  exact h

set_option maxHeartbeats 800000 in
set_option maxRecDepth 100000 in
theorem rNumber_any (s : ByteArray) (w : World) (hs : s.size ≤ maxLen) :
    Calls Tryz.prog 37 #[.string s] w fun e w' => ∃ (n : Int) (b : Bool), e = .returned (.tuple #[.int .i64 n, .bool b]) ∧ I64 n ∧ (b = true → (⟨(Lib.itoa n).toArray⟩ : ByteArray) = s) ∧ (b = false → NoNum s) ∧ Below w.heap.size w w' := by
  have hs := Nat.le_trans hs (Nat.le_refl _)
  unfold maxLen at hs
  have z64 : I64 0 := ⟨by decide, by decide⟩
  by_cases h0 : s.size = 0
  · have HN := Lib.hid (noNum_size (s := s) (.inl h0))
    have e0 : ((s.size : Int) == 0) = true := by simp [h0]
    go_enter Tryz.func37, Tryz.ntmps37
    go_wp2_with fail
    exact bodyPost_ret (v := .tuple #[.int .i64 0, .bool false]) (by simp [results, Tryz.results37, go_sem]) rfl ⟨0, false, rfl, z64, (fun h => by cases h), fun _ => HN.out, Below.refl _ _⟩
  · have e0 : ((s.size : Int) == 0) = false := beq_eq_false_iff_ne.2 (by omega)
    by_cases h20 : 20 < s.size
    · have HN := Lib.hid (noNum_size (s := s) (.inr h20))
      have e20 : decide ((20 : Int) < (s.size : Int)) = true := by simp; omega
      go_enter Tryz.func37, Tryz.ntmps37
      go_wp2_with fail
      exact bodyPost_ret (v := .tuple #[.int .i64 0, .bool false]) (by simp [results, Tryz.results37, go_sem]) rfl ⟨0, false, rfl, z64, (fun h => by cases h), fun _ => HN.out, Below.refl _ _⟩
    · have e20 : decide ((20 : Int) < (s.size : Int)) = false := by simp; omega
      clear h0 h20
      go_enter Tryz.func37, Tryz.ntmps37
      go_wp2_with fail
      go_loop [4, 5] (fun n i => ∃ (j : Nat) (m : Int), j ≤ s.size ∧ i = .int .i64 j ∧ n = .int .i64 m ∧ Hid (m = numFold (s.data.toList.take j))) (fun _ i => s.size - (intOf i).toNat)
      case atStart => exact ⟨0, 0, Nat.zero_le _, rfl, rfl, rfl⟩
      case round =>
        obtain ⟨j, m, hj, rfl, rfl, HM⟩ := hrel
        have hj0 : (0 : Int) ≤ (j : Int) := by omega
        by_cases hlt : j < s.size
        · have hlti : (j : Int) < (s.size : Int) := by omega
          have ht := numFold_take s j hlt
          rw [← HM.out] at ht
          have hb := s[j].toNat_lt
          by_cases hd : 48 ≤ s[j].toNat ∧ s[j].toNat ≤ 57
          · obtain ⟨hd1, hd2⟩ := hd
            unfold numStep at ht
            rw [if_pos ⟨hd1, hd2⟩] at ht
            have HT := Lib.hid ht
            have g1 : (48 : Int) ≤ (s[j].toNat : Int) := by omega
            have g2 : (s[j].toNat : Int) ≤ 57 := by omega
            clear ht
            go_wp2_with fail
            go_round
            case rel => exact ⟨j + 1, _, by omega, by go_num, rfl, by show _ = _; rw [HT.out]⟩
            case measure => simp [intOf]; omega
          · unfold numStep at ht
            rw [if_neg hd] at ht
            have HT := Lib.hid ht
            clear ht
            by_cases hd1 : 48 ≤ s[j].toNat
            · have g1 : (48 : Int) ≤ (s[j].toNat : Int) := by omega
              have g2 : ¬ (s[j].toNat : Int) ≤ 57 := by omega
              go_wp2_with fail
              go_round
              case rel => exact ⟨j + 1, _, by omega, by go_num, rfl, HT.out.symm⟩
              case measure => simp [intOf]; omega
            · have g1 : ¬ (48 : Int) ≤ (s[j].toNat : Int) := by omega
              go_wp2_with fail
              go_round
              case rel => exact ⟨j + 1, _, by omega, by go_num, rfl, HT.out.symm⟩
              case measure => simp [intOf]; omega
        · have hf := HM.out
          rw [List.take_of_length_le (by simpa using hlt)] at hf
          have HF := Lib.hid hf
          have hi := numFold_i64 s.data.toList
          rw [← hf] at hi
          have HI := Lib.hid hi
          clear hf hi
          go_wp2_with fail
          refine (rDigits_any (m.natAbs + 1) m _ (by omega) HI.out.1 HI.out.2).mono ?_
          rintro e w1 ⟨rfl, hb1⟩
          have W1 := Lib.hid hb1
          clear hb1
          have hE : (Lib.itoa m == s.toList) = decide ((⟨(Lib.itoa m).toArray⟩ : ByteArray) = s) := itoa_beq m s
          by_cases h1 : (⟨(Lib.itoa m).toArray⟩ : ByteArray) = s
          · have H1 := Lib.hid h1
            rw [decide_eq_true h1] at hE
            clear h1
            go_wp2_with fail
            exact bodyPost_ret (v := .tuple #[.int .i64 m, .bool true]) (by simp [results, Tryz.results37, go_sem]) rfl ⟨m, true, rfl, HI.out, fun _ => H1.out, (fun h => by cases h), W1.out⟩
          · have H1 := Lib.hid h1
            rw [decide_eq_false h1] at hE
            clear h1
            by_cases hm : m = -9223372036854775808
            · have HN : Hid (NoNum s) := noNum_fold (by rw [← HF.out]; exact H1.out) (.inl (by rw [← HF.out]; exact hm))
              have hme : (m != -9223372036854775808) = false := by simp [hm]
              clear hm
              go_wp2_with fail
              exact bodyPost_ret (v := .tuple #[.int .i64 0, .bool false]) (by simp [results, Tryz.results37, go_sem]) rfl ⟨0, false, rfl, z64, (fun h => by cases h), fun _ => HN.out, W1.out⟩
            · have hme : (m != -9223372036854775808) = true := by simp [hm]
              have hng : wrap64 (-m) = -m := wrap_id ⟨by have := HI.out.2; omega, by have := HI.out.1; omega⟩
              have HJ : Hid (I64 (-m)) := ⟨by have := HI.out.2; omega, by have := HI.out.1; omega⟩
              have HM2 := Lib.hid hm
              clear hm
              go_wp2_with fail
              refine (rDigits_any ((-m).natAbs + 1) (-m) _ (by omega) HJ.out.1 HJ.out.2).mono ?_
              rintro e w2 ⟨rfl, hb2⟩
              have W2 := Lib.hid (thn W1.out hb2)
              clear hb2
              have hE2 : (Lib.itoa (-m) == s.toList) = decide ((⟨(Lib.itoa (-m)).toArray⟩ : ByteArray) = s) := itoa_beq (-m) s
              by_cases h2 : (⟨(Lib.itoa (-m)).toArray⟩ : ByteArray) = s
              · have H2 := Lib.hid h2
                rw [decide_eq_true h2] at hE2
                clear h2
                go_wp2_with fail
                exact bodyPost_ret (v := .tuple #[.int .i64 (-m), .bool true]) (by simp [results, Tryz.results37, go_sem, wrap_id (x := -m) HJ.out]) rfl ⟨-m, true, rfl, HJ.out, fun _ => H2.out, (fun h => by cases h), W2.out⟩
              · have HN : Hid (NoNum s) := noNum_fold (by rw [← HF.out]; exact H1.out) (.inr (by rw [← HF.out]; exact h2))
                rw [decide_eq_false h2] at hE2
                clear h2
                go_wp2_with fail
                exact bodyPost_ret (v := .tuple #[.int .i64 0, .bool false]) (by simp [results, Tryz.results37, go_sem]) rfl ⟨0, false, rfl, z64, (fun h => by cases h), fun _ => HN.out, W2.out⟩
end Go.Proofs.YtphgbfgccagcbaaGreatDoor
namespace Go.Proofs.YtphgbfgccagcbaaGreatDoor
open Go.RowKit

/-- what strings of values look like -/
theorem parses_cases {s : ByteArray} (h : parses s = true) : s = sNull ∨ s = sFalse ∨ s = sTrue ∨ (∃ n, I64 n ∧ (⟨(Lib.itoa n).toArray⟩ : ByteArray) = s) ∨ (∃ l : List UInt8, okText l = true ∧ s.data.toList = 39 :: (quote l ++ [39])) := by
  obtain ⟨h1, h2⟩ := (parses_iff s).1 h
  have hi := readV_i64 s
  rcases hx : readV s with ⟨k, n, q⟩
  rw [hx] at h1 h2 hi
  rcases ok_cases h1 with ⟨e1, e2, e3⟩ | ⟨e1, e2⟩ | ⟨e1, e2, e3⟩ | ⟨e1, e2, e3⟩ | ⟨e1, e2, ht⟩
  · subst e1 e2 e3; exact .inl h2.symm
  · subst e1 e2; exact .inr (.inr (.inr (.inl ⟨n, hi, h2⟩)))
  · subst e1 e2 e3; exact .inr (.inl h2.symm)
  · subst e1 e2 e3; exact .inr (.inr (.inl h2.symm))
  · subst e1 e2
    rw [strB_text] at h2
    exact .inr (.inr (.inr (.inr ⟨q.data.toList, ht, by rw [← h2]⟩)))
theorem parses_null : parses sNull = true ∧ readV sNull = ⟨0, 0, ⟨#[]⟩⟩ :=
  ⟨parses_strB 0 0 ⟨#[]⟩ (by decide) ⟨by decide, by decide⟩, readV_strB 0 0 ⟨#[]⟩ (by decide) ⟨by decide, by decide⟩⟩
theorem parses_false : parses sFalse = true ∧ readV sFalse = ⟨2, 0, ⟨#[]⟩⟩ :=
  ⟨parses_strB 2 0 ⟨#[]⟩ (by decide) ⟨by decide, by decide⟩, readV_strB 2 0 ⟨#[]⟩ (by decide) ⟨by decide, by decide⟩⟩
theorem parses_true : parses sTrue = true ∧ readV sTrue = ⟨2, 1, ⟨#[]⟩⟩ :=
  ⟨parses_strB 2 1 ⟨#[]⟩ (by decide) ⟨by decide, by decide⟩, readV_strB 2 1 ⟨#[]⟩ (by decide) ⟨by decide, by decide⟩⟩
theorem parses_num (n : Int) (h : I64 n) : parses ⟨(Lib.itoa n).toArray⟩ = true ∧ readV ⟨(Lib.itoa n).toArray⟩ = ⟨1, n, ⟨#[]⟩⟩ :=
  ⟨parses_strB 1 n ⟨#[]⟩ rfl h, readV_strB 1 n ⟨#[]⟩ rfl h⟩
theorem itoa_no39 (n : Int) (r : List UInt8) : Lib.itoa n ≠ 39 :: r := fun e => by
  obtain ⟨c, t, hc, hh⟩ := itoa_head n
  rw [hc] at e
  injection e with e1 _
  subst e1
  revert hh; decide
/-- what the reference has put together, if the string is one of a text -/
def Inv (s : ByteArray) (q : List UInt8) (a : Nat) : Prop := ∀ l : List UInt8, s.data.toList = 39 :: (quote l ++ [39]) → l.length ≤ 200 → ∃ r, l = q ++ r ∧ a = 1 + (quote q).length
theorem Inv.start (s : ByteArray) : Inv s [] 1 := fun l _ _ => ⟨l, rfl, rfl⟩
theorem Inv.step {s : ByteArray} {q : List UInt8} {a : Nat} (h : Inv s q a) (ha : a < s.size) (hlt : a + 1 < s.size) : Inv s (q ++ [s[a]]) (if s[a] = 39 then a + 2 else a + 1) := fun l hl h200 => by
  obtain ⟨r, hr, hq⟩ := h l hl h200
  have hsz : s.data.toList.length = s.size := Array.length_toList
  have hg : s.data.toList[a]? = some s[a] := List.getElem?_eq_getElem (by omega)
  generalize s[a] = x at hg ⊢
  cases r with
  | nil =>
    rw [List.append_nil] at hr
    subst hr
    rw [hl] at hsz
    simp at hsz
    omega
  | cons c r =>
    have e1 : s.data.toList = (39 :: quote q) ++ (quote (c :: r) ++ [39]) := by
      rw [hl, hr, quote_append]; simp
    have e2 : (39 :: quote q).length = a := by simp; omega
    rw [e1, List.getElem?_append_right (by omega), e2, Nat.sub_self, quote_cons] at hg
    have e3 : x = c := by
      by_cases h39 : c = 39
      · rw [if_pos h39] at hg
        simp at hg
        rw [h39, hg]
      · rw [if_neg h39] at hg
        simp at hg
        exact hg.symm
    refine ⟨r, by rw [e3, hr]; simp, ?_⟩
    have e4 : quote [] = [] := rfl
    rw [e3, quote_append, quote_cons, e4]
    split
    · simp; omega
    · simp; omega
theorem Inv.done {s : ByteArray} {q : List UInt8} {a : Nat} (h : Inv s q a) (hend : s.size ≤ a + 1 ∨ 200 < q.length) {l : List UInt8} (hl : s.data.toList = 39 :: (quote l ++ [39])) (h200 : l.length ≤ 200) : l = q := by
  obtain ⟨r, hr, hq⟩ := h l hl h200
  have hsz : s.data.toList.length = s.size := Array.length_toList
  cases r with
  | nil => rw [hr, List.append_nil]
  | cons c r =>
    rw [hl, hr, quote_append, quote_cons] at hsz
    have hl2 : l.length = q.length + (r.length + 1) := by rw [hr]; simp
    rcases hend with h1 | h1
    · exfalso
      revert hsz
      split <;> simp <;> omega
    · omega

/-- the answer of the reference is the program's -/
def Ans (s : ByteArray) (x : V) (b : Bool) : Prop := (b = true → parses s = true ∧ readV s = x) ∧ (b = false → parses s = false)
theorem Ans.bytes {s : ByteArray} {q : ByteArray} (ht : okText q.data.toList = true) (e : (⟨(39 :: (quote q.data.toList ++ [39])).toArray⟩ : ByteArray) = s) : parses s = true ∧ readV s = ⟨3, 0, q⟩ := by
  rw [← strB_text] at e
  subst e
  exact ⟨parses_strB 3 0 q ht ⟨by decide, by decide⟩, readV_strB 3 0 q ht ⟨by decide, by decide⟩⟩
theorem no_text {s : ByteArray} {q : ByteArray} (h39 : s.data.toList.head? = some 39) (hd : ∀ l : List UInt8, s.data.toList = 39 :: (quote l ++ [39]) → l.length ≤ 200 → l = q.data.toList)
    (hb : okText q.data.toList = false ∨ (⟨(39 :: (quote q.data.toList ++ [39])).toArray⟩ : ByteArray) ≠ s) : parses s = false := by
  cases hp : parses s with
  | false => rfl
  | true =>
    exfalso
    rcases parses_cases hp with e | e | e | ⟨n, _, e⟩ | ⟨l, hl, e⟩
    · subst e; revert h39; decide
    · subst e; revert h39; decide
    · subst e; revert h39; decide
    · subst e
      obtain ⟨c, r, hc, hh⟩ := itoa_head n
      have h2 : (Lib.itoa n).head? = some 39 := h39
      rw [hc] at h2
      simp at h2
      subst h2
      revert hh; decide
    · have h200 : l.length ≤ 200 := by unfold okText at hl; simp at hl; exact hl.1
      have e2 := hd l e h200
      subst e2
      rcases hb with hb | hb
      · rw [hl] at hb; cases hb
      · exact hb (ba_list e.symm)
theorem no_num {s : ByteArray} (hn : NoNum s) (h0 : s ≠ sNull) (h1 : s ≠ sFalse) (h2 : s ≠ sTrue) (h39 : s.data.toList.head? ≠ some 39) : parses s = false := by
  cases hp : parses s with
  | false => rfl
  | true =>
    exfalso
    rcases parses_cases hp with e | e | e | ⟨n, hi, e⟩ | ⟨l, hl, e⟩
    · exact h0 e
    · exact h1 e
    · exact h2 e
    · exact hn n hi e
    · exact h39 (by rw [e]; rfl)
theorem head_at (s : ByteArray) (h : 0 < s.size) : s.data.toList.head? = some (s[0]'h) := by
  have hsz : s.data.toList.length = s.size := Array.length_toList
  rw [List.head?_eq_getElem?]
  exact List.getElem?_eq_getElem (by omega)
end Go.Proofs.YtphgbfgccagcbaaGreatDoor
namespace Go.Proofs.YtphgbfgccagcbaaGreatDoor
open Go.RowKit

theorem beq_null (s : ByteArray) : (s.toList == [110, 117, 108, 108]) = decide (s = sNull) := by
  have h := beq_ba s sNull
  rw [toList_eq sNull] at h
  exact h
theorem beq_true (s : ByteArray) : (s.toList == [116, 114, 117, 101]) = decide (s = sTrue) := by
  have h := beq_ba s sTrue
  rw [toList_eq sTrue] at h
  exact h
theorem beq_false (s : ByteArray) : (s.toList == [102, 97, 108, 115, 101]) = decide (s = sFalse) := by
  have h := beq_ba s sFalse
  rw [toList_eq sFalse] at h
  exact h
theorem ansP (s : ByteArray) {x : V} (h : parses s = true ∧ readV s = x) : Ans s x true := ⟨fun _ => h, (fun h => by cases h)⟩
set_option maxHeartbeats 1000000 in
set_option maxRecDepth 100000 in
theorem rParse_num (s : ByteArray) (w : World) (hs : s.size ≤ 20000) (h0 : s ≠ sNull) (h1 : s ≠ sFalse) (h2 : s ≠ sTrue) (h39 : s.data.toList.head? ≠ some 39) :
    Calls Tryz.prog 33 #[.string s] w fun e w' => ∃ (x : V) (b : Bool), e = .returned (.tuple #[.agg #[.int .i64 x.k, .int .i64 x.n, .string x.s], .bool b]) ∧ Ans s x b ∧ Below w.heap.size w w' := by
  have HN := Lib.hid (fun h => no_num (s := s) h h0 h1 h2 h39)
  have e0 : (s.toList == [110, 117, 108, 108]) = false := by rw [beq_null]; exact decide_eq_false h0
  have e1 : (s.toList == [116, 114, 117, 101]) = false := by rw [beq_true]; exact decide_eq_false h2
  have e2 : (s.toList == [102, 97, 108, 115, 101]) = false := by rw [beq_false]; exact decide_eq_false h1
  have HS := Lib.hid hs
  have R0 := Blk.new' (w := w) (g := w.heap.size) (t := 63) (cs := #[.int .i64 0, .int .i64 0, .string ⟨#[]⟩]) rfl
  have hlt0 : w.heap.size < (w.alloc (.cells #[.int .i64 0, .int .i64 0, .string ⟨#[]⟩] 63)).heap.size := by simp
  clear h0 h1 h2 hs
  by_cases hz : 0 < s.size
  · have hc : ¬ s[0] = 39 := fun e => h39 (by rw [head_at s hz, e])
    have hcc : ((s[0].toNat : Int) == 39) = false := by
      rw [beq_eq_false_iff_ne]
      intro e
      exact hc (UInt8.toNat_inj.1 (by show s[0].toNat = 39; omega))
    clear h39 hc
    go_enter Tryz.func33, Tryz.ntmps33
    go_wp2_with fail
    refine (rNumber_any s _ (by have := HS.out; unfold maxLen; omega)).mono ?_
    rintro e w1 ⟨n, b, rfl, hn, hb1, hb2, hB⟩
    have HA : Hid (Ans s ⟨1, n, ⟨#[]⟩⟩ b) := ⟨fun h => by
      have e := hb1 h
      rw [← e]
      exact parses_num n hn, fun h => HN.out (hb2 h)⟩
    have W1 := Lib.hid (thn (al (Below.refl _ w) _) hB)
    have R1 := R0.below hB hlt0
    clear hb1 hb2 hB hn
    go_wp2_with fail
    refine (rInt_any n _).mono ?_
    rintro e w2 ⟨rfl, hB⟩
    have W2 := Lib.hid (thn W1.out hB)
    obtain ⟨⟨r0, r1, r2⟩, f0, f1, f2⟩ := (R1.below hB R1.lt).three
    clear hB R1 R0
    go_wp2_with fail
    exact bodyPost_ret (v := .tuple #[.agg #[.int .i64 1, .int .i64 n, .string ⟨#[]⟩], .bool b]) (by simp [results, Tryz.results33, go_sem, r0, r1, r2]) rfl ⟨⟨1, n, ⟨#[]⟩⟩, b, rfl, HA.out, st3 W2.out (Nat.le_refl _) _ _ _⟩
  · clear h39
    go_enter Tryz.func33, Tryz.ntmps33
    go_wp2_with fail
    refine (rNumber_any s _ (by have := HS.out; unfold maxLen; omega)).mono ?_
    rintro e w1 ⟨n, b, rfl, hn, hb1, hb2, hB⟩
    have HA : Hid (Ans s ⟨1, n, ⟨#[]⟩⟩ b) := ⟨fun h => by
      have e := hb1 h
      rw [← e]
      exact parses_num n hn, fun h => HN.out (hb2 h)⟩
    have W1 := Lib.hid (thn (al (Below.refl _ w) _) hB)
    have R1 := R0.below hB hlt0
    clear hb1 hb2 hB hn
    go_wp2_with fail
    refine (rInt_any n _).mono ?_
    rintro e w2 ⟨rfl, hB⟩
    have W2 := Lib.hid (thn W1.out hB)
    obtain ⟨⟨r0, r1, r2⟩, f0, f1, f2⟩ := (R1.below hB R1.lt).three
    clear hB R1 R0
    go_wp2_with fail
    exact bodyPost_ret (v := .tuple #[.agg #[.int .i64 1, .int .i64 n, .string ⟨#[]⟩], .bool b]) (by simp [results, Tryz.results33, go_sem, r0, r1, r2]) rfl ⟨⟨1, n, ⟨#[]⟩⟩, b, rfl, HA.out, st3 W2.out (Nat.le_refl _) _ _ _⟩

set_option maxHeartbeats 1000000 in
set_option maxRecDepth 100000 in
theorem rParse_word (s : ByteArray) (w : World) (h : s = sNull ∨ s = sFalse ∨ s = sTrue) :
    Calls Tryz.prog 33 #[.string s] w fun e w' => ∃ (x : V) (b : Bool), e = .returned (.tuple #[.agg #[.int .i64 x.k, .int .i64 x.n, .string x.s], .bool b]) ∧ Ans s x b ∧ Below w.heap.size w w' := by
  have R0 := Blk.new' (w := w) (g := w.heap.size) (t := 63) (cs := #[.int .i64 0, .int .i64 0, .string ⟨#[]⟩]) rfl
  have hlt0 : w.heap.size < (w.alloc (.cells #[.int .i64 0, .int .i64 0, .string ⟨#[]⟩] 63)).heap.size := by simp
  rcases h with rfl | rfl | rfl
  · have e0 : (sNull.toList == [110, 117, 108, 108]) = true := by rw [beq_null]; decide
    have HA := Lib.hid (ansP sNull parses_null)
    obtain ⟨⟨r0, r1, r2⟩, f0, f1, f2⟩ := R0.three
    go_enter Tryz.func33, Tryz.ntmps33
    go_wp2_with fail
    exact bodyPost_ret (v := .tuple #[.agg #[.int .i64 0, .int .i64 0, .string ⟨#[]⟩], .bool true]) (by simp [results, Tryz.results33, go_sem, r0, r1, r2]) rfl ⟨⟨0, 0, ⟨#[]⟩⟩, true, rfl, HA.out, al (Below.refl _ _) _⟩
  · have e0 : (sFalse.toList == [110, 117, 108, 108]) = false := by rw [beq_null]; decide
    have e1 : (sFalse.toList == [116, 114, 117, 101]) = false := by rw [beq_true]; decide
    have e2 : (sFalse.toList == [102, 97, 108, 115, 101]) = true := by rw [beq_false]; decide
    have HA := Lib.hid (ansP sFalse parses_false)
    go_enter Tryz.func33, Tryz.ntmps33
    go_wp2_with fail
    refine (rBool_any false _).mono ?_
    rintro e w1 ⟨rfl, hB⟩
    have W1 := Lib.hid (thn (al (Below.refl _ w) _) hB)
    obtain ⟨⟨r0, r1, r2⟩, f0, f1, f2⟩ := (R0.below hB hlt0).three
    clear hB R0
    go_wp2_with fail
    exact bodyPost_ret (v := .tuple #[.agg #[.int .i64 2, .int .i64 0, .string ⟨#[]⟩], .bool true]) (by simp [results, Tryz.results33, go_sem, r0, r1, r2, b2i]) rfl ⟨⟨2, 0, ⟨#[]⟩⟩, true, rfl, HA.out, st3 W1.out (Nat.le_refl _) _ _ _⟩
  · have e0 : (sTrue.toList == [110, 117, 108, 108]) = false := by rw [beq_null]; decide
    have e1 : (sTrue.toList == [116, 114, 117, 101]) = true := by rw [beq_true]; decide
    have HA := Lib.hid (ansP sTrue parses_true)
    go_enter Tryz.func33, Tryz.ntmps33
    go_wp2_with fail
    refine (rBool_any true _).mono ?_
    rintro e w1 ⟨rfl, hB⟩
    have W1 := Lib.hid (thn (al (Below.refl _ w) _) hB)
    obtain ⟨⟨r0, r1, r2⟩, f0, f1, f2⟩ := (R0.below hB hlt0).three
    clear hB R0
    go_wp2_with fail
    exact bodyPost_ret (v := .tuple #[.agg #[.int .i64 2, .int .i64 1, .string ⟨#[]⟩], .bool true]) (by simp [results, Tryz.results33, go_sem, r0, r1, r2, b2i]) rfl ⟨⟨2, 1, ⟨#[]⟩⟩, true, rfl, HA.out, st3 W1.out (Nat.le_refl _) _ _ _⟩
end Go.Proofs.YtphgbfgccagcbaaGreatDoor
namespace Go.Proofs.YtphgbfgccagcbaaGreatDoor
open Go.RowKit

set_option maxHeartbeats 2000000 in
set_option maxRecDepth 100000 in
theorem rParse_text (s : ByteArray) (w : World) (hs : s.size ≤ 20000) (h0 : s ≠ sNull) (h1 : s ≠ sFalse) (h2 : s ≠ sTrue) (hz : 0 < s.size) (h39 : s[0] = 39) :
    Calls Tryz.prog 33 #[.string s] w fun e w' => ∃ (x : V) (b : Bool), e = .returned (.tuple #[.agg #[.int .i64 x.k, .int .i64 x.n, .string x.s], .bool b]) ∧ Ans s x b ∧ Below w.heap.size w w' := by
  have e0 : (s.toList == [110, 117, 108, 108]) = false := by rw [beq_null]; exact decide_eq_false h0
  have e1 : (s.toList == [116, 114, 117, 101]) = false := by rw [beq_true]; exact decide_eq_false h2
  have e2 : (s.toList == [102, 97, 108, 115, 101]) = false := by rw [beq_false]; exact decide_eq_false h1
  have HS := Lib.hid hs
  have HH : Hid (s.data.toList.head? = some 39) := by rw [← h39]; exact head_at s hz
  have hcc : ((s[0].toNat : Int) == 39) = true := by rw [h39]; rfl
  have R0 := Blk.new' (w := w) (g := w.heap.size) (t := 63) (cs := #[.int .i64 0, .int .i64 0, .string ⟨#[]⟩]) rfl
  have W0 := Lib.hid (al (Below.refl w.heap.size w) (.cells #[.int .i64 0, .int .i64 0, .string ⟨#[]⟩] 63))
  clear h0 h1 h2 h39
  go_enter Tryz.func33, Tryz.ntmps33
  go_upto_block 0 with fail
  generalize hw0 : w.alloc (.cells #[.int .i64 0, .int .i64 0, .string ⟨#[]⟩] 63) = w0 at *
  clear hw0
  go_cut [4, 5] (fun t _ wx => ∃ q : ByteArray, t = .string q ∧ q.size ≤ 201 ∧ Hid (∀ l : List UInt8, s.data.toList = 39 :: (quote l ++ [39]) → l.length ≤ 200 → l = q.data.toList) ∧ wx = w0)
  case first =>
    go_wp2_with fail
    go_loop [4, 5] (fun t i => ∃ (q : ByteArray) (a : Nat), t = .string q ∧ i = .int .i64 a ∧ 1 ≤ a ∧ a ≤ s.size ∧ q.size ≤ 201 ∧ Hid (Inv s q.data.toList a)) (fun _ i => s.size - (intOf i).toNat)
    case atStart => exact ⟨_, 1, rfl, rfl, Nat.le_refl _, hz, by decide, Inv.start s⟩
    case round =>
      obtain ⟨q, a, rfl, rfl, ha1, ha2, hq, HI⟩ := hrel
      by_cases hlt : a + 1 < s.size
      · have hlti : (a : Int) < (s.size : Int) - 1 := by omega
        by_cases hq2 : q.size ≤ 200
        · have hqi : (q.size : Int) ≤ 200 := by omega
          have hla : a < s.size := by omega
          have hx := extract_one s a hla
          have HX := Lib.hid hx
          have hxs : (s.extract a (a + 1)).size = 1 := by
            rw [ByteArray.size_extract]; omega
          have hst := HI.out.step hla hlt
          clear hx
          by_cases hc : s[a] = 39
          · have ec : ((s[a].toNat : Int) == 39) = true := by simp [hc]
            rw [if_pos hc] at hst
            have HT := Lib.hid hst
            clear hst hc
            go_wp2_with fail
            go_round
            case rel =>
              refine ⟨_, a + 2, rfl, by go_num, by omega, by omega, by rw [ByteArray.size_append, hxs]; omega, ?_⟩
              show Inv s _ _
              rw [ByteArray.data_append, Array.toList_append, HX.out]
              exact HT.out
            case measure => simp [intOf]; omega
          · have ec : ((s[a].toNat : Int) == 39) = false := by
              rw [beq_eq_false_iff_ne]
              intro e
              exact hc (UInt8.toNat_inj.1 (by show s[a].toNat = 39; omega))
            rw [if_neg hc] at hst
            have HT := Lib.hid hst
            clear hst hc
            go_wp2_with fail
            go_round
            case rel =>
              refine ⟨_, a + 1, rfl, by go_num, by omega, by omega, by rw [ByteArray.size_append, hxs]; omega, ?_⟩
              show Inv s _ _
              rw [ByteArray.data_append, Array.toList_append, HX.out]
              exact HT.out
            case measure => simp [intOf]; omega
        · have hqi : ¬ (q.size : Int) ≤ 200 := by omega
          have HD : Hid (∀ l : List UInt8, s.data.toList = 39 :: (quote l ++ [39]) → l.length ≤ 200 → l = q.data.toList) := fun l hl h200 => HI.out.done (.inr (by have : q.data.toList.length = q.size := Array.length_toList; omega)) hl h200
          go_wp2_with fail
          go_meet
          case rel => exact ⟨q, rfl, hq, HD, rfl⟩
      · have hlti : ¬ (a : Int) < (s.size : Int) - 1 := by omega
        have HD : Hid (∀ l : List UInt8, s.data.toList = 39 :: (quote l ++ [39]) → l.length ≤ 200 → l = q.data.toList) := fun l hl h200 => HI.out.done (.inl (by omega)) hl h200
        go_wp2_with fail
        go_meet
        case rel => exact ⟨q, rfl, hq, HD, rfl⟩
  case rest =>
    obtain ⟨q, rfl, hq, HD, hwx⟩ := hcut
    subst hwx
    rename_i w0
    go_wp2_with fail
    refine (rText_any q _).mono ?_
    rintro e w1 ⟨rfl, hB⟩
    have W1 := Lib.hid (thn W0.out hB)
    have R1 := R0.below hB R0.lt
    have hgv : w.heap.size < w1.heap.size := R1.lt
    clear hB R0 W0
    go_upto_region 14 with fail
    have V2 := Blk.new' (w := w1) (g := w1.heap.size) (t := 63) (cs := #[.int .i64 3, .int .i64 0, .string q]) rfl
    have R2 := R1.alloc (.cells #[.int .i64 3, .int .i64 0, .string q] 63)
    have W2 := Lib.hid (al W1.out (.cells #[.int .i64 3, .int .i64 0, .string q] 63))
    clear R1 W1
    generalize w1.alloc (.cells #[.int .i64 3, .int .i64 0, .string q] 63) = w2 at *
    have hqm : q.size ≤ maxLen := by unfold maxLen; omega
    have hqk : q.size ≤ 1000000 := by omega
    obtain ⟨⟨v0, v1, v2⟩, vx⟩ := V2.three
    obtain ⟨⟨r0, r1, r2⟩, f0, f1, f2⟩ := R2.three
    clear vx
    go_cut [3, 56, 57, 58, 59, 60, 61, 62, 63, 64] (fun b _ _ _ _ _ _ _ _ _ wx => ∃ B : Bool, b = .bool B ∧ Hid (Ans s ⟨3, 0, q⟩ B) ∧ Hid (Below w.heap.size w wx) ∧ Blk wx w.heap.size 63 #[.int .i64 3, .int .i64 0, .string q])
    case first =>
      by_cases hok : okVal 3 0 q.data.toList = true
      · have HOK := Lib.hid hok
        have htx : okText q.data.toList = true := hok
        have hE := beq_ba ⟨(39 :: (quote q.data.toList ++ [39])).toArray⟩ s
        rw [ByteArray.toList_mk (39 :: (quote q.data.toList ++ [39]))] at hE
        have HA : Hid (Ans s ⟨3, 0, q⟩ (decide ((⟨(39 :: (quote q.data.toList ++ [39])).toArray⟩ : ByteArray) = s))) :=
          ⟨fun h => Ans.bytes htx (of_decide_eq_true h), fun h => no_text HH.out HD.out (.inr (of_decide_eq_false h))⟩
        generalize decide ((⟨(39 :: (quote q.data.toList ++ [39])).toArray⟩ : ByteArray) = s) = B at hE HA
        clear hok htx
        first
        | (go_region_with (first
            | (go_at_call 56; refine (Right_any 3 0 q _ hqm).mono ?_; rintro e w3 ⟨rfl, hB3⟩; rw [HOK.out]; have hB4 : Below w2.heap.size w2 w3 := ⟨hB3.os, hB3.tape, hB3.output, hB3.size, hB3.block⟩; have R3 := R2.below hB4 R2.lt; have V3 := V2.below hB4 V2.lt; have W3 := Lib.hid (thn W2.out hB4); obtain ⟨⟨s0, s1, s2⟩, g0, g1, g2⟩ := R3.three; obtain ⟨⟨u0, u1, u2⟩, ux⟩ := V3.three; clear ux hB3 hB4 R2 V2 W2 v0 v1 v2 r0 r1 r2 f0 f1 f2)
            | (go_at_call 57; refine (rString_text 0 q _ hqk).mono ?_; rintro e w4 ⟨rfl, hB3⟩; have hB4 : Below w3.heap.size w3 w4 := ⟨hB3.os, hB3.tape, hB3.output, hB3.size, hB3.block⟩; have R4 := R3.below hB4 R3.lt; have V4 := V3.below hB4 V3.lt; have W4 := Lib.hid (thn W3.out hB4); obtain ⟨⟨s0, s1, s2⟩, g0, g1, g2⟩ := R4.three; obtain ⟨⟨u0, u1, u2⟩, ux⟩ := V4.three; clear ux hB3 hB4 R3 V3 W3)))
        | fail
        all_goals go_wp2_with fail
        all_goals go_meet
        all_goals exact ⟨B, rfl, HA.out, st3 W4.out (Nat.le_refl _) _ _ _, R4.three_set _ _ _⟩
      · have hok0 : okVal 3 0 q.data.toList = false := by simpa using hok
        have HOK := Lib.hid hok0
        have HA : Hid (Ans s ⟨3, 0, q⟩ false) := ⟨(fun h => by cases h), fun _ => no_text HH.out HD.out (.inl hok0)⟩
        clear hok hok0
        first
        | (go_region_with (go_at_call 56; refine (Right_any 3 0 q _ hqm).mono ?_; rintro e w3 ⟨rfl, hB3⟩; rw [HOK.out]; have hB4 : Below w2.heap.size w2 w3 := ⟨hB3.os, hB3.tape, hB3.output, hB3.size, hB3.block⟩; have R3 := R2.below hB4 R2.lt; have V3 := V2.below hB4 V2.lt; have W3 := Lib.hid (thn W2.out hB4); obtain ⟨⟨s0, s1, s2⟩, g0, g1, g2⟩ := R3.three; obtain ⟨⟨u0, u1, u2⟩, ux⟩ := V3.three; clear ux hB3 hB4 R2 V2 W2 v0 v1 v2 r0 r1 r2 f0 f1 f2))
        | fail
        all_goals go_wp2_with fail
        all_goals go_meet
        all_goals exact ⟨false, rfl, HA.out, st3 W3.out (Nat.le_refl _) _ _ _, R3.three_set _ _ _⟩
    case rest =>
      obtain ⟨B, rfl, HA, HB, BR⟩ := hcut
      obtain ⟨⟨k0, k1, k2⟩, f0, f1, f2⟩ := BR.three
      go_wp2_with fail
      exact bodyPost_ret (v := .tuple #[.agg #[.int .i64 3, .int .i64 0, .string q], .bool B]) (by simp [results, Tryz.results33, go_sem, k0, k1, k2]) rfl ⟨⟨3, 0, q⟩, B, rfl, HA.out, HB.out⟩

theorem rParse_any (s : ByteArray) (w : World) (hs : s.size ≤ 20000) :
    Calls Tryz.prog 33 #[.string s] w fun e w' => ∃ (x : V) (b : Bool), e = .returned (.tuple #[.agg #[.int .i64 x.k, .int .i64 x.n, .string x.s], .bool b]) ∧ Ans s x b ∧ Below w.heap.size w w' := by
  by_cases h0 : s = sNull
  · exact rParse_word s w (.inl h0)
  · by_cases h1 : s = sFalse
    · exact rParse_word s w (.inr (.inl h1))
    · by_cases h2 : s = sTrue
      · exact rParse_word s w (.inr (.inr h2))
      · by_cases h39 : s.data.toList.head? = some 39
        · have hz : 0 < s.size := by
            have hsz : s.data.toList.length = s.size := Array.length_toList
            cases hl : s.data.toList with
            | nil => rw [hl] at h39; cases h39
            | cons c r => rw [hl] at hsz; simp at hsz; omega
          have e := head_at s hz
          rw [h39] at e
          exact rParse_text s w hs h0 h1 h2 hz (Option.some.inj e).symm
        · exact rParse_num s w hs h0 h1 h2 h39
end Go.Proofs.YtphgbfgccagcbaaGreatDoor
namespace Go.Proofs.YtphgbfgccagcbaaGreatDoor
open Go.RowKit

theorem inNm_lt {c : UInt8} (h : (c.toNat : Int) < 48) : Tok.inNm c = false := by
  unfold Tok.inNm; simp; omega
theorem inNm_mid {c : UInt8} (h : 57 < (c.toNat : Int)) (h2 : (c.toNat : Int) < 97) : Tok.inNm c = decide (c.toNat = 95) := by
  unfold Tok.inNm; simp; omega
set_option maxHeartbeats 1000000 in
theorem InName_any (c : UInt8) (w : World) : Calls Tryz.prog 34 #[.int .u8 (c.toNat : Int)] w fun e w' => e = .returned (.bool (Tok.inNm c)) ∧ w = w' := by
  by_cases h1 : (97 : Int) ≤ (c.toNat : Int)
  · have e1 : decide ((97 : Int) ≤ (c.toNat : Int)) = true := decide_eq_true h1
    by_cases h2 : (c.toNat : Int) ≤ 122
    · have e2 : decide ((c.toNat : Int) ≤ (122 : Int)) = true := decide_eq_true h2
      have HE : Hid (Tok.inNm c = true) := Lib.hid (by unfold Tok.inNm; simp; omega)
      clear h1 h2
      go_enter Tryz.func34, Tryz.ntmps34
      go_wp2_with fail
      go_ret
      exact ⟨by rw [HE.out]; rfl, rfl⟩
    · have e2 : decide ((c.toNat : Int) ≤ (122 : Int)) = false := decide_eq_false h2
      have e3 : decide ((48 : Int) ≤ (c.toNat : Int)) = true := decide_eq_true (by omega)
      have e4 : decide ((c.toNat : Int) ≤ (57 : Int)) = false := decide_eq_false (by omega)
      have e5 : ((c.toNat : Int) == 95) = false := beq_eq_false_iff_ne.2 (by omega)
      have HE : Hid (Tok.inNm c = false) := Lib.hid (by unfold Tok.inNm; simp; omega)
      clear h1 h2
      go_enter Tryz.func34, Tryz.ntmps34
      go_wp2_with fail
      go_ret
      exact ⟨by rw [HE.out]; rfl, rfl⟩
  · have e1 : decide ((97 : Int) ≤ (c.toNat : Int)) = false := decide_eq_false h1
    by_cases h3 : (48 : Int) ≤ (c.toNat : Int)
    · have e3 : decide ((48 : Int) ≤ (c.toNat : Int)) = true := decide_eq_true h3
      by_cases h4 : (c.toNat : Int) ≤ 57
      · have e4 : decide ((c.toNat : Int) ≤ (57 : Int)) = true := decide_eq_true h4
        have HE : Hid (Tok.inNm c = true) := Lib.hid (by unfold Tok.inNm; simp; omega)
        clear h1 h3 h4
        go_enter Tryz.func34, Tryz.ntmps34
        go_wp2_with fail
        go_ret
        exact ⟨by rw [HE.out]; rfl, rfl⟩
      · have e4 : decide ((c.toNat : Int) ≤ (57 : Int)) = false := decide_eq_false h4
        have HE : Hid (Tok.inNm c = ((c.toNat : Int) == 95)) := Lib.hid (by
          rw [inNm_mid (by omega) (by omega)]
          by_cases h : c.toNat = 95
          · rw [decide_eq_true h, h]; rfl
          · rw [decide_eq_false h]; exact (beq_eq_false_iff_ne.2 (by omega)).symm)
        clear h1 h3 h4
        go_enter Tryz.func34, Tryz.ntmps34
        go_wp2_with fail
        go_ret
        exact ⟨by rw [HE.out]; rfl, rfl⟩
    · have e3 : decide ((48 : Int) ≤ (c.toNat : Int)) = false := decide_eq_false h3
      have e5 : ((c.toNat : Int) == 95) = false := beq_eq_false_iff_ne.2 (by omega)
      have HE : Hid (Tok.inNm c = false) := Lib.hid (inNm_lt (by omega))
      clear h1 h3
      go_enter Tryz.func34, Tryz.ntmps34
      go_wp2_with fail
      go_ret
      exact ⟨by rw [HE.out]; rfl, rfl⟩
theorem sml_great {c : UInt8} (h : 65 ≤ c.toNat) (h2 : c.toNat ≤ 90) : ((Tok.sml c).toNat : Int) = (c.toNat : Int) + 32 := by
  have e : Tok.sml c = c + 32 := if_pos ⟨h, h2⟩
  rw [e, UInt8.toNat_add]
  simp
  omega
set_option maxHeartbeats 1000000 in
theorem small_any (c : UInt8) (w : World) : Calls Tryz.prog 35 #[.int .u8 (c.toNat : Int)] w fun e w' => e = .returned (.int .u8 ((Tok.sml c).toNat : Int)) ∧ w = w' := by
  by_cases h1 : (65 : Int) ≤ (c.toNat : Int)
  · have e1 : decide ((65 : Int) ≤ (c.toNat : Int)) = true := decide_eq_true h1
    by_cases h2 : (c.toNat : Int) ≤ 90
    · have e2 : decide ((c.toNat : Int) ≤ (90 : Int)) = true := decide_eq_true h2
      have HE := Lib.hid (sml_great (c := c) (by omega) (by omega))
      clear h1
      go_enter Tryz.func35, Tryz.ntmps35
      go_wp2_with fail
      go_ret
      exact ⟨by rw [HE.out]; rfl, rfl⟩
    · have e2 : decide ((c.toNat : Int) ≤ (90 : Int)) = false := decide_eq_false h2
      have HE : Hid (Tok.sml c = c) := Lib.hid (if_neg (by omega))
      clear h1 h2
      go_enter Tryz.func35, Tryz.ntmps35
      go_wp2_with fail
      go_ret
      exact ⟨by rw [HE.out]; rfl, rfl⟩
  · have e1 : decide ((65 : Int) ≤ (c.toNat : Int)) = false := decide_eq_false h1
    have HE : Hid (Tok.sml c = c) := Lib.hid (if_neg (by omega))
    clear h1
    go_enter Tryz.func35, Tryz.ntmps35
    go_wp2_with fail
    go_ret
    exact ⟨by rw [HE.out]; rfl, rfl⟩
/-- the form of a name: a name or a word -/
def formed (l : List UInt8) : Bool := decide (1 ≤ l.length) && decide (l.length ≤ 20) && (match l with | [] => false | c :: _ => decide (97 ≤ c.toNat ∧ c.toNat ≤ 122)) && l.all Tok.inNm
theorem formed_len {l : List UInt8} (h : l.length < 1 ∨ 20 < l.length) : formed l = false := by
  unfold formed
  rcases h with h | h
  · rw [decide_eq_false (by omega)]; rfl
  · rw [decide_eq_false (p := l.length ≤ 20) (by omega)]; simp
theorem formed_head {c : UInt8} {l : List UInt8} (h : ¬ (97 ≤ c.toNat ∧ c.toNat ≤ 122)) : formed (c :: l) = false := by
  unfold formed
  simp only [decide_eq_false h, Bool.and_false, Bool.false_and]
theorem formed_bad {l : List UInt8} {c : UInt8} (h : c ∈ l) (h2 : Tok.inNm c = false) : formed l = false := by
  unfold formed
  have : l.all Tok.inNm = false := List.all_eq_false.2 ⟨c, h, by simp [h2]⟩
  rw [this, Bool.and_false]
theorem formed_all {c : UInt8} {l : List UInt8} (h : (c :: l).length ≤ 20) (h1 : 97 ≤ c.toNat ∧ c.toNat ≤ 122) (h2 : ∀ x ∈ c :: l, Tok.inNm x = true) : formed (c :: l) = true := by
  unfold formed
  rw [decide_eq_true (by simp), decide_eq_true h, List.all_eq_true.2 h2]
  simp only [decide_eq_true h1, Bool.and_self]
theorem bytes_cons {s : ByteArray} (h : 0 < s.size) : ∃ l, s.data.toList = s[0] :: l := by
  have h2 : 0 < s.data.toList.length := by rw [Array.length_toList]; exact h
  cases hl : s.data.toList with
  | nil => rw [hl] at h2; cases h2
  | cons c l =>
    refine ⟨l, ?_⟩
    have : s.data.toList[0] = s[0] := Array.getElem_toList (xs := s.data) h
    simp only [hl, List.getElem_cons_zero] at this
    rw [this]
theorem byte_mem (s : ByteArray) (k : Nat) (h : k < s.size) : s[k] ∈ s.data.toList := Array.mem_toList_iff.2 (Array.getElem_mem (xs := s.data) (i := k) h)
set_option maxHeartbeats 1000000 in
theorem Formed_any (s : ByteArray) (w : World) (hs : s.size ≤ maxLen) : Calls Tryz.prog 36 #[.string s] w fun e w' => e = .returned (.bool (formed s.data.toList)) ∧ w = w' := by
  have hs := Nat.le_trans hs (Nat.le_refl _)
  unfold maxLen at hs
  have hlen : s.data.toList.length = s.size := Array.length_toList
  by_cases h1 : (s.size : Int) < 1
  · have e1 : decide ((s.size : Int) < 1) = true := decide_eq_true h1
    have HE := Lib.hid (formed_len (l := s.data.toList) (.inl (by omega)))
    clear hlen
    go_enter Tryz.func36, Tryz.ntmps36
    go_wp2_with fail
    go_ret
    exact ⟨by rw [HE.out]; rfl, rfl⟩
  · have e1 : decide ((s.size : Int) < 1) = false := decide_eq_false h1
    by_cases h2 : (20 : Int) < (s.size : Int)
    · have e2 : decide ((20 : Int) < (s.size : Int)) = true := decide_eq_true h2
      have HE := Lib.hid (formed_len (l := s.data.toList) (.inr (by omega)))
      clear hlen
      go_enter Tryz.func36, Tryz.ntmps36
      go_wp2_with fail
      go_ret
      exact ⟨by rw [HE.out]; rfl, rfl⟩
    · have e2 : decide ((20 : Int) < (s.size : Int)) = false := decide_eq_false h2
      have h0 : 0 < s.size := by omega
      have h0i : (0 : Int) < (s.size : Int) := by omega
      have HC := Lib.hid (bytes_cons h0)
      by_cases h3 : (s[0].toNat : Int) < 97
      · have e3 : decide ((s[0].toNat : Int) < (97 : Int)) = true := decide_eq_true h3
        have HE : Hid (formed s.data.toList = false) := Lib.hid (by
          obtain ⟨l, hl⟩ := HC.out
          rw [hl]; exact formed_head (by omega))
        clear hlen h3 h1 h2
        go_enter Tryz.func36, Tryz.ntmps36
        go_wp2_with fail
        go_ret
        exact ⟨by rw [HE.out]; rfl, rfl⟩
      · have e3 : decide ((s[0].toNat : Int) < (97 : Int)) = false := decide_eq_false h3
        by_cases h4 : (122 : Int) < (s[0].toNat : Int)
        · have e4 : decide ((122 : Int) < (s[0].toNat : Int)) = true := decide_eq_true h4
          have HE : Hid (formed s.data.toList = false) := Lib.hid (by
            obtain ⟨l, hl⟩ := HC.out
            rw [hl]; exact formed_head (by omega))
          clear hlen h3 h4 h1 h2
          go_enter Tryz.func36, Tryz.ntmps36
          go_wp2_with fail
          go_ret
          exact ⟨by rw [HE.out]; rfl, rfl⟩
        · have e4 : decide ((122 : Int) < (s[0].toNat : Int)) = false := decide_eq_false h4
          have HE : Hid ((∀ x ∈ s.data.toList, Tok.inNm x = true) → formed s.data.toList = true) := Lib.hid (by
            obtain ⟨l, hl⟩ := HC.out
            intro h
            rw [hl] at h ⊢
            exact formed_all (by rw [hl] at hlen; omega) (by omega) h)
          clear hlen h3 h4
          go_enter Tryz.func36, Tryz.ntmps36
          go_wp2_with fail
          go_loop [3] (fun i => ∃ k : Nat, k ≤ s.size ∧ i = .int .i64 k ∧ Hid (∀ x ∈ s.data.toList.take k, Tok.inNm x = true)) (fun i => s.size - (intOf i).toNat)
          case atStart => exact ⟨0, Nat.zero_le _, rfl, Lib.hid (by simp)⟩
          case round =>
            obtain ⟨k, hk, rfl, HI⟩ := hrel
            by_cases hlt : k < s.size
            · have hlti : (k : Int) < (s.size : Int) := by omega
              cases hb : Tok.inNm s[k] with
              | true =>
                have HB := Lib.hid hb
                clear hb
                have HN : Hid (∀ x ∈ s.data.toList.take (k + 1), Tok.inNm x = true) := Lib.hid (by
                  rw [take_snoc s k hlt]
                  intro x hx
                  rcases List.mem_append.1 hx with h | h
                  · exact HI.out x h
                  · rw [List.mem_singleton.1 h]; exact HB.out)
                go_wp2_with ((refine (InName_any s[k] _).mono ?_); rw [HB.out]; rintro e w' ⟨rfl, rfl⟩)
                go_round
                case rel => exact ⟨k + 1, by omega, by go_num, HN⟩
                case measure => simp [intOf]; omega
              | false =>
                have HB := Lib.hid hb
                clear hb
                have HF := Lib.hid (formed_bad (byte_mem s k hlt) HB.out)
                go_wp2_with ((refine (InName_any s[k] _).mono ?_); rw [HB.out]; rintro e w' ⟨rfl, rfl⟩)
                go_ret
                exact ⟨by rw [HF.out]; rfl, rfl⟩
            · have hlf : decide ((k : Int) < (s.size : Int)) = false := decide_eq_false (by omega)
              have HF : Hid (formed s.data.toList = true) := Lib.hid (HE.out (by
                have h := HI.out
                rw [List.take_of_length_le (by rw [Array.length_toList]; show s.size ≤ k; omega)] at h
                exact h))
              go_wp2_with fail
              go_ret
              exact ⟨by rw [HF.out]; rfl, rfl⟩
end Go.Proofs.YtphgbfgccagcbaaGreatDoor
namespace Go.Proofs.YtphgbfgccagcbaaGreatDoor
open Go.RowKit

theorem dropc (s : ByteArray) (k : Nat) (h : k < s.size) : s.data.toList.drop k = s[k] :: s.data.toList.drop (k + 1) := by
  have h2 : k < s.data.toList.length := by rw [Array.length_toList]; exact h
  rw [List.drop_eq_getElem_cons h2]
  rfl
theorem quoG_ne {c : UInt8} {l : List UInt8} (h : c ≠ 39) : Tok.quoG (c :: l) = if Tok.quoG l = 0 then 0 else Tok.quoG l + 1 := by
  rw [Tok.quoG.eq_def]; simp only [if_neg h]
theorem quoG_two (l : List UInt8) : Tok.quoG (39 :: 39 :: l) = if Tok.quoG l = 0 then 0 else Tok.quoG l + 2 := by
  rw [Tok.quoG.eq_def]; simp
theorem quoG_end {l : List UInt8} (h : ∀ r, l ≠ 39 :: r) : Tok.quoG (39 :: l) = 1 := by
  rw [Tok.quoG.eq_def]
  cases l with
  | nil => simp
  | cons d r =>
    have : d ≠ 39 := fun e => h r (by rw [e])
    simp [this]
theorem ite_step (q n m : Nat) : (if (if q = 0 then 0 else q + n) = 0 then 0 else (if q = 0 then 0 else q + n) + m) = if q = 0 then 0 else q + (m + n) := by
  by_cases h : q = 0
  · simp [h]
  · have h2 : ¬ q + n = 0 := by omega
    rw [if_neg h, if_neg h2, if_neg h]; omega
/-- how long the text is that stands at the beginning, or 0 -/
def quo (l : List UInt8) : Nat := if Tok.quoG (l.drop 1) = 0 then 0 else Tok.quoG (l.drop 1) + 1
theorem ne39 {c : UInt8} (h : (c.toNat : Int) ≠ 39) : c ≠ 39 := fun e => h (by rw [e]; rfl)
theorem eq39 {c : UInt8} (h : (c.toNat : Int) = 39) : c = 39 := UInt8.toNat_inj.1 (show c.toNat = 39 by omega)
set_option maxHeartbeats 1000000 in
theorem quoted_any (s : ByteArray) (w : World) (hs : s.size ≤ maxLen) (h0 : 0 < s.size) : Calls Tryz.prog 32 #[.string s] w fun e w' => e = .returned (.int .i64 (quo s.data.toList : Nat)) ∧ w = w' := by
  have hs := Nat.le_trans hs (Nat.le_refl _)
  unfold maxLen at hs
  go_enter Tryz.func32, Tryz.ntmps32
  go_wp2_with fail
  go_loop [3] (fun i => ∃ k : Nat, k ≤ s.size ∧ 1 ≤ k ∧ i = .int .i64 k ∧ Hid (quo s.data.toList = if Tok.quoG (s.data.toList.drop k) = 0 then 0 else Tok.quoG (s.data.toList.drop k) + k)) (fun i => s.size - (intOf i).toNat)
  case atStart => exact ⟨1, h0, Nat.le_refl _, rfl, Lib.hid rfl⟩
  case round =>
    obtain ⟨k, hk, hk1, rfl, HI⟩ := hrel
    by_cases hlt : k < s.size
    · have hlti : (k : Int) < (s.size : Int) := by omega
      have HD := Lib.hid (dropc s k hlt)
      by_cases hc : (s[k].toNat : Int) = 39
      · have hce : ((s[k].toNat : Int) != 39) = false := by simp [hc]
        have hce2 : ((s[k].toNat : Int) == 39) = true := by simp [hc]
        have HC := Lib.hid (eq39 hc)
        clear hc
        by_cases hl2 : k + 1 < s.size
        · have hl2i : (k : Int) + 1 < (s.size : Int) := by omega
          have hl3 : decide ((s.size : Int) ≤ (k : Int) + 1) = false := decide_eq_false (by omega)
          have HD2 := Lib.hid (dropc s (k + 1) hl2)
          have hidx : (k : Int) + 1 = ((k + 1 : Nat) : Int) := by omega
          by_cases hd : (s[k + 1].toNat : Int) = 39
          · have hde : ((s[k + 1].toNat : Int) != 39) = false := by simp [hd]
            have HC2 := Lib.hid (eq39 hd)
            clear hd hidx
            have HN : Hid (quo s.data.toList = if Tok.quoG (s.data.toList.drop (k + 2)) = 0 then 0 else Tok.quoG (s.data.toList.drop (k + 2)) + (k + 2)) := Lib.hid (by
              rw [HI.out, HD.out, HD2.out, HC.out, HC2.out, quoG_two, ite_step])
            go_wp2_with fail
            go_round
            case rel => exact ⟨k + 2, by omega, by omega, by go_num, HN⟩
            case measure => simp [intOf]; omega
          · have hde : ((s[k + 1].toNat : Int) != 39) = true := by simp [hd]
            have HC2 := Lib.hid (ne39 hd)
            clear hd hidx
            have HN : Hid (quo s.data.toList = k + 1) := Lib.hid (by
              rw [HI.out, HD.out, HD2.out, HC.out, quoG_end (fun r e => by injection e with e _; exact HC2.out e), if_neg (by decide)]
              omega)
            go_wp2_with fail
            go_ret
            exact ⟨by rw [HN.out]; rfl, rfl⟩
        · have hl3 : decide ((s.size : Int) ≤ (k : Int) + 1) = true := decide_eq_true (by omega)
          have HN : Hid (quo s.data.toList = k + 1) := Lib.hid (by
            rw [HI.out, HD.out, HC.out, List.drop_eq_nil_of_le (by rw [Array.length_toList]; show s.size ≤ k + 1; omega), quoG_end (fun r e => by cases e), if_neg (by decide)]
            omega)
          go_wp2_with fail
          go_ret
          exact ⟨by rw [HN.out]; rfl, rfl⟩
      · have hce : ((s[k].toNat : Int) != 39) = true := by simp [hc]
        have HC := Lib.hid (ne39 hc)
        clear hc
        have HN : Hid (quo s.data.toList = if Tok.quoG (s.data.toList.drop (k + 1)) = 0 then 0 else Tok.quoG (s.data.toList.drop (k + 1)) + (k + 1)) := Lib.hid (by
          rw [HI.out, HD.out, quoG_ne HC.out, ite_step])
        go_wp2_with fail
        go_round
        case rel => exact ⟨k + 1, by omega, by omega, by go_num, HN⟩
        case measure => simp [intOf]; omega
    · have hlf : decide ((k : Int) < (s.size : Int)) = false := decide_eq_false (by omega)
      have HN : Hid (quo s.data.toList = 0) := Lib.hid (by
        rw [HI.out, List.drop_eq_nil_of_le (by rw [Array.length_toList]; show s.size ≤ k; omega)]
        rfl)
      go_wp2_with fail
      go_ret
      exact ⟨by rw [HN.out]; rfl, rfl⟩
end Go.Proofs.YtphgbfgccagcbaaGreatDoor
namespace Go.Proofs.YtphgbfgccagcbaaGreatDoor
open Go.RowKit

/-- the words, rising -/
def wordsB : List ByteArray := [⟨#[97, 108, 108]⟩, ⟨#[97, 110, 100]⟩, ⟨#[97, 115]⟩, ⟨#[97, 115, 99]⟩, ⟨#[98, 101, 116, 119, 101, 101, 110]⟩, ⟨#[98, 121]⟩, ⟨#[99, 97, 115, 101]⟩, ⟨#[99, 114, 111, 115, 115]⟩, ⟨#[100, 101, 115, 99]⟩, ⟨#[100, 105, 115, 116, 105, 110, 99, 116]⟩, ⟨#[101, 108, 115, 101]⟩, ⟨#[101, 110, 100]⟩, ⟨#[101, 120, 99, 101, 112, 116]⟩, ⟨#[101, 120, 105, 115, 116, 115]⟩, ⟨#[102, 97, 108, 115, 101]⟩, ⟨#[102, 114, 111, 109]⟩, ⟨#[102, 117, 108, 108]⟩, ⟨#[103, 114, 111, 117, 112]⟩, ⟨#[104, 97, 118, 105, 110, 103]⟩, ⟨#[105, 110]⟩, ⟨#[105, 110, 110, 101, 114]⟩, ⟨#[105, 110, 116, 101, 114, 115, 101, 99, 116]⟩, ⟨#[105, 115]⟩, ⟨#[106, 111, 105, 110]⟩, ⟨#[108, 101, 102, 116]⟩, ⟨#[108, 105, 109, 105, 116]⟩, ⟨#[110, 111, 116]⟩, ⟨#[110, 117, 108, 108]⟩, ⟨#[111, 102, 102, 115, 101, 116]⟩, ⟨#[111, 110]⟩, ⟨#[111, 114]⟩, ⟨#[111, 114, 100, 101, 114]⟩, ⟨#[111, 117, 116, 101, 114]⟩, ⟨#[114, 105, 103, 104, 116]⟩, ⟨#[115, 101, 108, 101, 99, 116]⟩, ⟨#[116, 104, 101, 110]⟩, ⟨#[116, 114, 117, 101]⟩, ⟨#[117, 110, 105, 111, 110]⟩, ⟨#[118, 97, 108, 117, 101, 115]⟩, ⟨#[119, 104, 101, 110]⟩, ⟨#[119, 104, 101, 114, 101]⟩]
def wordVals : Array Value := #[.string ⟨#[97, 108, 108]⟩, .string ⟨#[97, 110, 100]⟩, .string ⟨#[97, 115]⟩, .string ⟨#[97, 115, 99]⟩, .string ⟨#[98, 101, 116, 119, 101, 101, 110]⟩, .string ⟨#[98, 121]⟩, .string ⟨#[99, 97, 115, 101]⟩, .string ⟨#[99, 114, 111, 115, 115]⟩, .string ⟨#[100, 101, 115, 99]⟩, .string ⟨#[100, 105, 115, 116, 105, 110, 99, 116]⟩, .string ⟨#[101, 108, 115, 101]⟩, .string ⟨#[101, 110, 100]⟩, .string ⟨#[101, 120, 99, 101, 112, 116]⟩, .string ⟨#[101, 120, 105, 115, 116, 115]⟩, .string ⟨#[102, 97, 108, 115, 101]⟩, .string ⟨#[102, 114, 111, 109]⟩, .string ⟨#[102, 117, 108, 108]⟩, .string ⟨#[103, 114, 111, 117, 112]⟩, .string ⟨#[104, 97, 118, 105, 110, 103]⟩, .string ⟨#[105, 110]⟩, .string ⟨#[105, 110, 110, 101, 114]⟩, .string ⟨#[105, 110, 116, 101, 114, 115, 101, 99, 116]⟩, .string ⟨#[105, 115]⟩, .string ⟨#[106, 111, 105, 110]⟩, .string ⟨#[108, 101, 102, 116]⟩, .string ⟨#[108, 105, 109, 105, 116]⟩, .string ⟨#[110, 111, 116]⟩, .string ⟨#[110, 117, 108, 108]⟩, .string ⟨#[111, 102, 102, 115, 101, 116]⟩, .string ⟨#[111, 110]⟩, .string ⟨#[111, 114]⟩, .string ⟨#[111, 114, 100, 101, 114]⟩, .string ⟨#[111, 117, 116, 101, 114]⟩, .string ⟨#[114, 105, 103, 104, 116]⟩, .string ⟨#[115, 101, 108, 101, 99, 116]⟩, .string ⟨#[116, 104, 101, 110]⟩, .string ⟨#[116, 114, 117, 101]⟩, .string ⟨#[117, 110, 105, 111, 110]⟩, .string ⟨#[118, 97, 108, 117, 101, 115]⟩, .string ⟨#[119, 104, 101, 110]⟩, .string ⟨#[119, 104, 101, 114, 101]⟩]
theorem wordVals_eq : wordVals = (wordsB.map Value.string).toArray := rfl
/-- a word -/
def isWd (l : List UInt8) : Bool := wordsB.any fun x => x.data.toList == l
/-- the signs, the longest ones first -/
def signsB : List ByteArray := [⟨#[60, 61]⟩, ⟨#[62, 61]⟩, ⟨#[60, 62]⟩, ⟨#[124, 124]⟩, ⟨#[40]⟩, ⟨#[41]⟩, ⟨#[44]⟩, ⟨#[46]⟩, ⟨#[42]⟩, ⟨#[43]⟩, ⟨#[45]⟩, ⟨#[47]⟩, ⟨#[37]⟩, ⟨#[61]⟩, ⟨#[60]⟩, ⟨#[62]⟩, ⟨#[59]⟩]
def signVals : Array Value := #[.string ⟨#[60, 61]⟩, .string ⟨#[62, 61]⟩, .string ⟨#[60, 62]⟩, .string ⟨#[124, 124]⟩, .string ⟨#[40]⟩, .string ⟨#[41]⟩, .string ⟨#[44]⟩, .string ⟨#[46]⟩, .string ⟨#[42]⟩, .string ⟨#[43]⟩, .string ⟨#[45]⟩, .string ⟨#[47]⟩, .string ⟨#[37]⟩, .string ⟨#[61]⟩, .string ⟨#[60]⟩, .string ⟨#[62]⟩, .string ⟨#[59]⟩]
theorem signVals_eq : signVals = (signsB.map Value.string).toArray := rfl
theorem signsB_eq : signsB.map (fun x => x.data.toList) = Tok.signs := rfl
set_option maxHeartbeats 1000000 in
set_option maxRecDepth 100000 in
theorem Words_any (w : World) : Calls Tryz.prog 24 #[] w fun e w' => e = .returned (.slice (some ⟨w.heap.size, 0, none⟩) 41 41) ∧ w' = w.alloc (.cells wordVals 9) := by
  go_enter Tryz.func24, Tryz.ntmps24
  go_wp2_with fail
  go_ret
  exact ⟨rfl, rfl⟩
set_option maxHeartbeats 1000000 in
set_option maxRecDepth 100000 in
theorem signs_any (w : World) : Calls Tryz.prog 38 #[] w fun e w' => e = .returned (.slice (some ⟨w.heap.size, 0, none⟩) 17 17) ∧ w' = w.alloc (.cells signVals 9) := by
  go_enter Tryz.func38, Tryz.ntmps38
  go_wp2_with fail
  go_ret
  exact ⟨rfl, rfl⟩
end Go.Proofs.YtphgbfgccagcbaaGreatDoor
namespace Go.Proofs.YtphgbfgccagcbaaGreatDoor
open Go.RowKit

/-- the slice at A reads as these strings, and lies below block B -/
def TReads (w : World) (B : Nat) (A : Option Addr) (l : List ByteArray) : Prop :=
  0 < l.length → ∃ b o, A = some ⟨b, o, none⟩ ∧ b < B ∧ ∀ i x, l[i]? = some x → w.cell? ⟨b, o + i, none⟩ = some (.string x)
theorem TReads.below {w w' : World} {B B' : Nat} {A : Option Addr} {l : List ByteArray} (h : TReads w B A l) (hb : Below B w w') (hB : B ≤ B') : TReads w' B' A l := fun h0 => by
  obtain ⟨b, o, rfl, hblk, hc⟩ := h h0
  exact ⟨b, o, rfl, by omega, fun i x hi => (hb.cell (p := ⟨b, _, none⟩) hblk).trans (hc i x hi)⟩
theorem TReads.at_ {w : World} {B : Nat} {A : Option Addr} {l : List ByteArray} (h : TReads w B A l) {i : Nat} (hi : i < l.length) : ∃ b o, A = some ⟨b, o, none⟩ ∧ b < B ∧ w.cell? ⟨b, o + i, none⟩ = some (.string l[i]) := by
  obtain ⟨b, o, rfl, hblk, hc⟩ := h (by omega)
  exact ⟨b, o, rfl, hblk, hc i _ (List.getElem?_eq_getElem hi)⟩
theorem TReads.new {w : World} {g : Nat} {T : TypeId} {l : List ByteArray} (h : Blk w g T (l.map Value.string).toArray) : TReads w w.heap.size (some ⟨g, 0, none⟩) l := fun _ =>
  ⟨g, 0, rfl, h.lt, fun i x hi => by
    obtain ⟨hlt, rfl⟩ := List.getElem?_eq_some_iff.1 hi
    rw [Nat.zero_add, h.cell i]
    simp [hlt]⟩
theorem Words_t (w : World) : Calls Tryz.prog 24 #[] w fun e w' => ∃ g, e = .returned (.slice (some ⟨g, 0, none⟩) 41 41) ∧ Blk w' g 9 (wordsB.map Value.string).toArray ∧ Below w.heap.size w w' :=
  (Words_any w).mono fun e w' ⟨h1, h2⟩ => by
    subst h2
    exact ⟨_, h1, by rw [← wordVals_eq]; exact Blk.new w _ _, al (Below.refl _ _) _⟩
theorem signs_t (w : World) : Calls Tryz.prog 38 #[] w fun e w' => ∃ g, e = .returned (.slice (some ⟨g, 0, none⟩) 17 17) ∧ Blk w' g 9 (signsB.map Value.string).toArray ∧ w.heap.size ≤ g ∧ Below w.heap.size w w' :=
  (signs_any w).mono fun e w' ⟨h1, h2⟩ => by
    subst h2
    exact ⟨_, h1, by rw [← signVals_eq]; exact Blk.new w _ _, Nat.le_refl _, al (Below.refl _ _) _⟩
theorem any_take_snoc {α : Type} (p : α → Bool) (l : List α) (k : Nat) (h : k < l.length) (h1 : (l.take k).any p = false) (h2 : p l[k] = false) : (l.take (k + 1)).any p = false := by
  rw [List.take_succ_eq_append_getElem h, List.any_append, h1]; simp [h2]
theorem any_hit {α : Type} (p : α → Bool) (l : List α) (k : Nat) (h : k < l.length) (h2 : p l[k] = true) : l.any p = true := List.any_eq_true.2 ⟨l[k], List.getElem_mem h, h2⟩
theorem sl_tl (a b : ByteArray) : (a.toList == b.toList) = (a.data.toList == b.data.toList) := by rw [toList_eq, toList_eq]
theorem wordsB_len : wordsB.length = 41 := rfl
set_option maxHeartbeats 1000000 in
theorem IsWord_any (s : ByteArray) (w : World) : Calls Tryz.prog 27 #[.string s] w fun e w' => e = .returned (.bool (isWd s.data.toList)) ∧ Below w.heap.size w w' := by
  have HL := Lib.hid wordsB_len
  go_enter Tryz.func27, Tryz.ntmps27
  go_wp2_with fail
  refine (Words_t w).mono ?_
  rintro e w1 ⟨g, rfl, hB, hb⟩
  have HB := Lib.hid (And.intro hB hb)
  clear hB hb
  go_wp2_with fail
  go_loop [4] (fun i => ∃ k : Nat, k ≤ 41 ∧ i = .int .i64 k ∧ Hid ((wordsB.take k).any (fun x => x.data.toList == s.data.toList) = false)) (fun i => 41 - (intOf i).toNat)
  case atStart => exact ⟨0, by decide, rfl, Lib.hid rfl⟩
  case round =>
    obtain ⟨k, hk, rfl, HI⟩ := hrel
    by_cases hlt : k < 41
    · have hlw : k < wordsB.length := by rw [HL.out]; exact hlt
      obtain ⟨b, o, e, -, hc⟩ := (TReads.new HB.out.1).at_ hlw
      injection e with e
      injection e with e1 e2 _
      subst e1 e2
      rw [Nat.zero_add] at hc
      have HP := Lib.hid (sl_tl wordsB[k] s)
      generalize hx : wordsB[k] = x at *
      have HX := Lib.hid hx
      clear hx
      cases hq : (x.data.toList == s.data.toList) with
      | true =>
        have he : (x.toList == s.toList) = true := by rw [HP.out]; exact hq
        have HQ := Lib.hid hq
        clear hq
        have HF : Hid (isWd s.data.toList = true) := Lib.hid (any_hit (fun x : ByteArray => x.data.toList == s.data.toList) wordsB k hlw (by rw [HX.out]; exact HQ.out))
        go_wp2_with fail
        go_ret
        exact ⟨by rw [HF.out]; rfl, HB.out.2⟩
      | false =>
        have he : (x.toList == s.toList) = false := by rw [HP.out]; exact hq
        have HQ := Lib.hid hq
        clear hq
        have HN := Lib.hid (any_take_snoc (fun x : ByteArray => x.data.toList == s.data.toList) wordsB k hlw HI.out (by rw [HX.out]; exact HQ.out))
        go_wp2_with fail
        go_round
        case rel => exact ⟨k + 1, by omega, by go_num, HN⟩
        case measure => simp [intOf]; omega
    · have hlf : decide ((k : Int) < (41 : Int)) = false := decide_eq_false (by omega)
      have HF : Hid (isWd s.data.toList = false) := Lib.hid (by
        have h := HI.out
        rw [List.take_of_length_le (by rw [HL.out]; omega)] at h
        exact h)
      go_wp2_with fail
      go_ret
      exact ⟨by rw [HF.out]; rfl, HB.out.2⟩
/-- a name -/
def isNm (l : List UInt8) : Bool := formed l && !isWd l
set_option maxHeartbeats 1000000 in
theorem IsName_any (s : ByteArray) (w : World) (hs : s.size ≤ maxLen) : Calls Tryz.prog 26 #[.string s] w fun e w' => e = .returned (.bool (isNm s.data.toList)) ∧ Below w.heap.size w w' := by
  cases hf : formed s.data.toList with
  | false =>
    have HF := Lib.hid hf
    have HE : Hid (isNm s.data.toList = false) := Lib.hid (by unfold isNm; rw [hf]; rfl)
    clear hf
    go_enter Tryz.func26, Tryz.ntmps26
    go_wp2_with ((refine (Formed_any s _ hs).mono ?_); rw [HF.out]; rintro e w' ⟨rfl, rfl⟩)
    go_ret
    exact ⟨by rw [HE.out]; rfl, Below.refl _ _⟩
  | true =>
    have HF := Lib.hid hf
    have HE : Hid (isNm s.data.toList = !isWd s.data.toList) := Lib.hid (by unfold isNm; rw [hf]; rfl)
    clear hf
    go_enter Tryz.func26, Tryz.ntmps26
    go_wp2_with fail
    refine (Formed_any s _ hs).mono ?_
    rw [HF.out]
    rintro e w' ⟨rfl, rfl⟩
    go_wp2_with fail
    refine (IsWord_any s _).mono ?_
    rintro e w' ⟨rfl, hb⟩
    have HB := Lib.hid hb
    clear hb
    go_wp2_with fail
    go_ret
    exact ⟨by rw [HE.out]; rfl, HB.out⟩
set_option maxHeartbeats 1000000 in
theorem IsWord8_any (s : ByteArray) (w : World) : Calls Tryz.prog 16 #[.string s] w fun e w' => e = .returned (.bool (isWd s.data.toList)) ∧ Below w.heap.size w w' := by
  go_enter Tryz.func16, Tryz.ntmps16
  go_wp2_with fail
  refine (IsWord_any s _).mono ?_
  rintro e w' ⟨rfl, hb⟩
  have HB := Lib.hid hb
  clear hb
  go_wp2_with fail
  go_ret
  exact ⟨rfl, HB.out⟩
set_option maxHeartbeats 1000000 in
theorem IsName8_any (s : ByteArray) (w : World) (hs : s.size ≤ maxLen) : Calls Tryz.prog 15 #[.string s] w fun e w' => e = .returned (.bool (isNm s.data.toList)) ∧ Below w.heap.size w w' := by
  go_enter Tryz.func15, Tryz.ntmps15
  go_wp2_with fail
  refine (IsName_any s _ hs).mono ?_
  rintro e w' ⟨rfl, hb⟩
  have HB := Lib.hid hb
  clear hb
  go_wp2_with fail
  go_ret
  exact ⟨rfl, HB.out⟩
set_option maxHeartbeats 1000000 in
theorem Words8_any (w : World) : Calls Tryz.prog 12 #[] w fun e w' => ∃ g, e = .returned (.slice (some ⟨g, 0, none⟩) 41 41) ∧ Blk w' g 9 (wordsB.map Value.string).toArray ∧ Below w.heap.size w w' := by
  go_enter Tryz.func12, Tryz.ntmps12
  go_wp2_with fail
  refine (Words_t _).mono ?_
  rintro e w' ⟨g, rfl, hB, hb⟩
  have HB := Lib.hid (And.intro hB hb)
  clear hB hb
  go_wp2_with fail
  go_ret
  exact ⟨g, rfl, HB.out⟩
end Go.Proofs.YtphgbfgccagcbaaGreatDoor
namespace Go.Proofs.YtphgbfgccagcbaaGreatDoor
open Go.RowKit

theorem extT (t : ByteArray) (k : Nat) : (t.extract 0 k).data.toList = t.data.toList.take k := by
  rw [ByteArray.data_extract, Array.toList_extract]; simp [List.extract]
theorem extD (t : ByteArray) (k : Nat) : (t.extract k t.size).data.toList = t.data.toList.drop k := by
  rw [ByteArray.data_extract, Array.toList_extract]
  simp only [List.extract]
  rw [List.take_of_length_le]
  rw [List.length_drop]
  exact Nat.le_refl _
/-- a number that a token may be -/
def isNu (l : List UInt8) : Bool := decide (0 ≤ -numFold l) && decide (-numFold l ≤ 9223372036854775807) && (Lib.itoa (-numFold l) == l)
theorem isNu_iff {l : List UInt8} : isNu l = true ↔ ∃ n : Int, 0 ≤ n ∧ n ≤ 9223372036854775807 ∧ Lib.itoa n = l := by
  unfold isNu
  simp only [Bool.and_eq_true, decide_eq_true_eq, beq_iff_eq]
  constructor
  · rintro ⟨⟨h1, h2⟩, h3⟩
    exact ⟨_, h1, h2, h3⟩
  · rintro ⟨n, h1, h2, rfl⟩
    have h := fold_itoa n ⟨by omega, h2⟩
    have e : -numFold (Lib.itoa n) = n := by rw [h]; omega
    rw [e]
    exact ⟨⟨h1, h2⟩, rfl⟩
/-- the string of a text -/
def isTx (l : List UInt8) : Bool := parses ⟨l.toArray⟩ && decide ((readV ⟨l.toArray⟩).k = 3)
theorem isTx_of (s : ByteArray) : isTx s.data.toList = (parses s && decide ((readV s).k = 3)) := by
  unfold isTx
  rw [ba_of s]
/-- the token at the beginning -/
abbrev oneB (l : List UInt8) : Option (Nat × List UInt8) := Tok.one isWd formed isNu isTx l
/-- what the reference says of a string's beginning -/
def BegT (s : ByteArray) (k : Nat) (t : ByteArray) (n : Nat) : Prop := (n = 0 ∧ oneB s.data.toList = none) ∨ (n = t.size ∧ oneB s.data.toList = some (k, t.data.toList))
theorem quo_le (l : List UInt8) (h : l ≠ []) : quo l ≤ l.length := by
  unfold quo
  have h1 := Tok.quo_le (l.drop 1)
  have h2 : 0 < l.length := List.length_pos_iff.2 h
  rw [List.length_drop] at h1
  split <;> omega
theorem one_tx_none {s : ByteArray} (h : s.data.toList.head? = some 39) (h2 : quo s.data.toList = 0 ∨ isTx (s.data.toList.take (quo s.data.toList)) = false) : oneB s.data.toList = none := by
  cases hl : s.data.toList with
  | nil => rw [hl] at h; cases h
  | cons c r =>
    rw [hl] at h h2
    simp only [List.head?_cons, Option.some.injEq] at h
    subst h
    unfold oneB
    rw [Tok.one, if_pos rfl]
    unfold quo at h2
    simp only [List.drop_succ_cons, List.drop_zero] at h2
    by_cases hq : Tok.quoG r = 0
    · rw [if_pos hq]
    · rw [if_neg hq]
      rw [if_neg hq] at h2
      rcases h2 with h2 | h2
      · omega
      · rw [if_neg (by rw [h2]; decide)]
theorem one_tx_some {s : ByteArray} (h : s.data.toList.head? = some 39) (h1 : quo s.data.toList ≠ 0) (h2 : isTx (s.data.toList.take (quo s.data.toList)) = true) : oneB s.data.toList = some (4, s.data.toList.take (quo s.data.toList)) := by
  cases hl : s.data.toList with
  | nil => rw [hl] at h; cases h
  | cons c r =>
    rw [hl] at h h1 h2
    simp only [List.head?_cons, Option.some.injEq] at h
    subst h
    unfold oneB
    rw [Tok.one, if_pos rfl]
    unfold quo at h1 h2 ⊢
    simp only [List.drop_succ_cons, List.drop_zero] at h1 h2 ⊢
    by_cases hq : Tok.quoG r = 0
    · rw [if_pos hq] at h1; exact absurd rfl h1
    · rw [if_neg hq]
      rw [if_neg hq] at h2 ⊢
      rw [if_pos h2]
set_option maxHeartbeats 4000000 in
set_option maxRecDepth 100000 in
theorem one_text (s : ByteArray) (w : World) (hs : s.size ≤ 20000) (h0 : 0 < s.size) (h39 : s.data.toList.head? = some 39) :
    Calls Tryz.prog 20 #[.string s] w fun e w' => ∃ (k : Nat) (t : ByteArray) (n : Nat), e = .returned (.tuple #[.agg #[.int .i64 k, .string t, .int .i64 0], .int .i64 n]) ∧ BegT s k t n ∧ Below w.heap.size w w' := by
  have R0 := Blk.new' (w := w) (g := w.heap.size) (t := 44) (cs := #[.int .i64 0, .string ⟨#[]⟩, .int .i64 0]) rfl
  have hlt0 : w.heap.size < (w.alloc (.cells #[.int .i64 0, .string ⟨#[]⟩, .int .i64 0] 44)).heap.size := by simp
  have hq : ((s[0].toNat : Int) == 39) = true := by
    have h := head_at s h0
    rw [h39] at h
    injection h with h
    rw [← h]; rfl
  have h0i : (0 : Int) < (s.size : Int) := by omega
  have hqle : quo s.data.toList ≤ s.size := by
    have := quo_le s.data.toList (fun e => by rw [e] at h39; cases h39)
    rw [Array.length_toList] at this
    exact this
  have H39 := Lib.hid h39
  have HR0 := Lib.hid R0
  clear h39 R0
  go_enter Tryz.func20, Tryz.ntmps20
  go_wp2_with fail
  refine (quoted_any s _ (by unfold maxLen; omega) h0).mono ?_
  rintro e w' ⟨rfl, rfl⟩
  have HTk : Hid ((s.extract 0 (quo s.data.toList)).data.toList = s.data.toList.take (quo s.data.toList)) := Lib.hid (extT _ _)
  have HIs : Hid (isTx (s.data.toList.take (quo s.data.toList)) = (parses (s.extract 0 (quo s.data.toList)) && decide ((readV (s.extract 0 (quo s.data.toList))).k = 3))) := Lib.hid (by rw [← isTx_of, HTk.out])
  have HNo : Hid ((quo s.data.toList = 0 ∨ isTx (s.data.toList.take (quo s.data.toList)) = false) → oneB s.data.toList = none) := Lib.hid (one_tx_none H39.out)
  have HYes : Hid (quo s.data.toList ≠ 0 → isTx (s.data.toList.take (quo s.data.toList)) = true → oneB s.data.toList = some (4, s.data.toList.take (quo s.data.toList))) := Lib.hid (one_tx_some H39.out)
  generalize quo s.data.toList = q at *
  have hqi : (q : Int) ≤ (s.size : Int) := by omega
  have hq0 : (0 : Int) ≤ (q : Int) := by omega
  have hps : (s.extract 0 q).size ≤ 20000 := by rw [ByteArray.size_extract]; omega
  have hsz : (s.extract 0 q).size = q := by rw [ByteArray.size_extract]; omega
  have HSz := Lib.hid hsz
  clear hsz
  go_wp2_with fail
  refine (rParse_any (s.extract 0 q) _ hps).mono ?_
  rintro e w2 ⟨x, b, rfl, ha, hb2⟩
  have W2 := Lib.hid (thn (al (Below.refl _ w) _) hb2)
  have HR2 := Lib.hid (HR0.out.below hb2 hlt0)
  have HA := Lib.hid ha
  have hs2 : w.heap.size < w2.heap.size := HR2.out.lt
  obtain ⟨⟨r0, r1, r2⟩, f0, f1, f2⟩ := HR2.out.three
  clear ha hb2 hps
  by_cases hz : q = 0
  · have hze : ((q : Int) == 0) = true := by rw [hz]; rfl
    have HB : Hid (oneB s.data.toList = none) := Lib.hid (HNo.out (.inl hz))
    clear hz HNo HYes HIs HTk HA
    go_wp2_with fail
    obtain ⟨⟨q0, q1, q2⟩, -⟩ := ((HR2.out.three_set (.int .i64 0) (.string ⟨#[]⟩) (.int .i64 0)).alloc (.cells #[.int .i64 x.k, .int .i64 x.n, .string x.s] 63)).three
    exact bodyPost_ret (v := .tuple #[.agg #[.int .i64 0, .string ⟨#[]⟩, .int .i64 0], .int .i64 0]) (by simp [results, Tryz.results20, go_sem, q0, q1, q2]) rfl ⟨0, ⟨#[]⟩, 0, rfl, .inl ⟨rfl, HB.out⟩, al (st3 W2.out (Nat.le_refl _) _ _ _) _⟩
  · have hze : ((q : Int) == 0) = false := beq_eq_false_iff_ne.2 (by omega)
    cases b with
    | false =>
      have HB : Hid (oneB s.data.toList = none) := Lib.hid (HNo.out (.inr (by rw [HIs.out, HA.out.2 rfl]; rfl)))
      clear HNo HYes HIs HTk HA
      go_wp2_with fail
      obtain ⟨⟨q0, q1, q2⟩, -⟩ := ((HR2.out.three_set (.int .i64 0) (.string ⟨#[]⟩) (.int .i64 0)).alloc (.cells #[.int .i64 x.k, .int .i64 x.n, .string x.s] 63)).three
      exact bodyPost_ret (v := .tuple #[.agg #[.int .i64 0, .string ⟨#[]⟩, .int .i64 0], .int .i64 0]) (by simp [results, Tryz.results20, go_sem, q0, q1, q2]) rfl ⟨0, ⟨#[]⟩, 0, rfl, .inl ⟨rfl, HB.out⟩, al (st3 W2.out (Nat.le_refl _) _ _ _) _⟩
    | true =>
      by_cases hk : x.k = 3
      · have hke : (x.k != 3) = false := by simp [hk]
        have HB : Hid (oneB s.data.toList = some (4, (s.extract 0 q).data.toList)) := Lib.hid (by
          obtain ⟨h1, h2⟩ := HA.out.1 rfl
          rw [HTk.out]
          exact HYes.out hz (by rw [HIs.out, h1, h2, decide_eq_true hk]; rfl))
        clear HNo HYes HIs HTk HA hk
        go_wp2_with fail
        obtain ⟨⟨q0, q1, q2⟩, -⟩ := ((HR2.out.three_set (.int .i64 4) (.string (s.extract 0 q)) (.int .i64 0)).alloc (.cells #[.int .i64 x.k, .int .i64 x.n, .string x.s] 63)).three
        exact bodyPost_ret (v := .tuple #[.agg #[.int .i64 4, .string (s.extract 0 q), .int .i64 0], .int .i64 q]) (by simp [results, Tryz.results20, go_sem, q0, q1, q2]) rfl ⟨4, (s.extract 0 q), q, rfl, .inr ⟨HSz.out.symm, HB.out⟩, al (st3 W2.out (Nat.le_refl _) _ _ _) _⟩
      · have hke : (x.k != 3) = true := by simp [hk]
        have HB : Hid (oneB s.data.toList = none) := Lib.hid (HNo.out (.inr (by
          obtain ⟨h1, h2⟩ := HA.out.1 rfl
          rw [HIs.out, h1, h2, decide_eq_false hk]; rfl)))
        clear HNo HYes HIs HTk HA hk
        go_wp2_with fail
        obtain ⟨⟨q0, q1, q2⟩, -⟩ := ((HR2.out.three_set (.int .i64 0) (.string ⟨#[]⟩) (.int .i64 0)).alloc (.cells #[.int .i64 x.k, .int .i64 x.n, .string x.s] 63)).three
        exact bodyPost_ret (v := .tuple #[.agg #[.int .i64 0, .string ⟨#[]⟩, .int .i64 0], .int .i64 0]) (by simp [results, Tryz.results20, go_sem, q0, q1, q2]) rfl ⟨0, ⟨#[]⟩, 0, rfl, .inl ⟨rfl, HB.out⟩, al (st3 W2.out (Nat.le_refl _) _ _ _) _⟩
end Go.Proofs.YtphgbfgccagcbaaGreatDoor
namespace Go.Proofs.YtphgbfgccagcbaaGreatDoor
open Go.RowKit

theorem gSpace : Tryz.prog.globalNamed "strings.asciiSpace" = some 1 := by kernel_rfl
structure GT (w : World) : Prop where
  e : GE w
  sgn : ∀ i, w.cell? ⟨0, i, none⟩ = signVals[i]?
  sp : Lib.TabIs Tryz.prog w "strings.asciiSpace" .u8 Lib.asciiSpaceTab
theorem GT.below {w w' : World} {B : Nat} (h : GT w) (hb : Below B w w') (hB : 13 ≤ B) : GT w' where
  e := h.e.below hb hB
  sgn := fun i => (hb.cell (p := ⟨0, i, none⟩) (show 0 < B by omega)).trans (h.sgn i)
  sp := var?_below hb gSpace (by omega) h.sp
theorem GT.thn {w w' : World} (h : GT w) (hb : Below w.heap.size w w') : GT w' := h.below hb h.e.g.big
theorem GT.cells {w : World} (h : GT w) : ∀ (j : Nat) (hj : j < 17), w.cell? ⟨0, j, none⟩ = some (.string (signsB[j]'hj)) := fun j hj => by
  rw [h.sgn, signVals_eq]
  simp only [List.getElem?_toArray, List.getElem?_map]
  rw [List.getElem?_eq_getElem (show j < signsB.length from hj)]
  rfl
end Go.Proofs.YtphgbfgccagcbaaGreatDoor
