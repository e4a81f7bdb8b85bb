/-
  RefQ: CONTRACT of the reference: String of a text. Every quote doubled: two ways to say it.
  Str: CONTRACTS: String of any value; the reference's String of a right value.
  Back: PLAIN MATHEMATICS of reading back: a number's string read by ParseInt and by the reference, every quote halved. The value of a value's string is the value.
-/
import Derived.Test.YtphgbfgccagcbaaGreatDoorRefD
import Derived.Test.YtphgbfgccagcbaaGreatDoorGA03
import Derived.Lib.ParseIntBCases
import Derived.Lib.CountLaws
namespace Go.Proofs.YtphgbfgccagcbaaGreatDoor
open Go.RowKit

/-- every quote doubled -/
def quote (l : List UInt8) : List UInt8 := l.flatMap fun c => if c = 39 then [39, 39] else [c]
theorem quote_cons (c : UInt8) (l : List UInt8) : quote (c :: l) = (if c = 39 then [39, 39] else [c]) ++ quote l := rfl
theorem quote_append (l r : List UInt8) : quote (l ++ r) = quote l ++ quote r := by simp [quote]
theorem repl_quote : ∀ s : List UInt8, Lib.replaceK [39] [39, 39] (Lib.count s [39]) s = quote s
  | [] => by rw [Lib.count_one]; rfl
  | c :: l => by
    have ih := repl_quote l
    rw [quote_cons]
    by_cases h : c = 39
    · subst h
      rw [if_pos rfl, Lib.count_cons_eq, Nat.add_comm, Lib.replaceK_hit _ _ _ _ 0 (by rfl)]
      simp only [List.take_zero, List.nil_append, Nat.zero_add, List.length_singleton, List.drop_succ_cons, List.drop_zero]
      rw [ih]
    · rw [if_neg h, Lib.count_cons_ne _ _ _ h]
      cases hk : Lib.count l [39] with
      | zero => rw [hk] at ih; rw [← ih]; rfl
      | succ k =>
        rw [hk] at ih
        obtain ⟨i, hi⟩ := Lib.index_of_count (s := l) (old := [39]) (by omega)
        have hi' : Lib.index (c :: l) [39] = ((i + 1 : Nat) : Int) := by
          have hc : ([39] : List UInt8).isPrefixOf (c :: l) = false := by simp [List.isPrefixOf]; exact fun e => h e.symm
          have hm : ¬ (Lib.index l [39] == -1) = true := fun e => by have := beq_iff_eq.1 e; omega
          rw [Lib.index, hc, if_neg (by decide), if_neg hm, hi]; rfl
        rw [Lib.replaceK_hit _ _ _ _ _ hi'] 
        rw [Lib.replaceK_hit _ _ _ _ _ hi] at ih
        rw [← ih]
        simp
theorem all_quote (s : List UInt8) : Lib.replaceAll s [39] [39, 39] = quote s := by
  unfold Lib.replaceAll Lib.replace
  rw [if_neg (by decide)]
  have hn : Lib.replaceNum s [39] (-1) = Lib.count s [39] := by unfold Lib.replaceNum; rw [if_pos (Or.inl (by decide))]
  rw [hn]
  exact repl_quote s

theorem extract_one (s : ByteArray) (j : Nat) (h : j < s.size) : (s.extract j (j + 1)).data.toList = [s[j]] := by
  rw [ByteArray.data_extract, Array.toList_extract]
  have hl : j < s.data.toList.length := by simpa using h
  simp only [List.extract_eq_take_drop, Nat.add_sub_cancel_left]
  rw [List.drop_eq_getElem_cons hl]
  rfl
theorem quote_take (s : ByteArray) (j : Nat) (h : j < s.size) : quote (s.data.toList.take (j + 1)) = quote (s.data.toList.take j) ++ (if s[j] = 39 then [39, 39] else [s[j]]) := by
  rw [take_snoc s j h, quote_append, quote_cons]
  simp [quote]

set_option maxHeartbeats 400000 in
theorem rString_text (n : Int) (s : ByteArray) (w : World) (hs : s.size ≤ 1000000) :
    Calls Tryz.prog 57 #[.agg #[.int .i64 3, .int .i64 n, .string s]] w fun e w' => e = .returned (.string ⟨(39 :: (quote s.data.toList ++ [39])).toArray⟩) ∧ Below w.heap.size w w' := by
  have hs := Nat.le_trans hs (Nat.le_refl _)
  go_enter Tryz.func57, Tryz.ntmps57
  go_wp2_with fail
  go_loop [3, 4] (fun t i => ∃ (j : Nat) (q : ByteArray), j ≤ s.size ∧ i = .int .i64 j ∧ t = .string q ∧ Hid (q.data.toList = 39 :: quote (s.data.toList.take j)) ∧ q.size ≤ 2 * j + 1) (fun _ i => s.size - (intOf i).toNat)
  case atStart => exact ⟨0, _, Nat.zero_le _, rfl, rfl, rfl, by decide⟩
  case round =>
    obtain ⟨j, q, hj, rfl, rfl, HQ, hq⟩ := hrel
    have hj0 : (0 : Int) ≤ (j : Int) := by omega
    by_cases hlt : j < s.size
    · have hlti : (j : Int) < (s.size : Int) := by omega
      have hx := extract_one s j hlt
      have ht := quote_take s j hlt
      have HX := Lib.hid hx
      have hxs : (s.extract j (j + 1)).size = 1 := by
        rw [ByteArray.size_extract]; omega
      clear hx
      by_cases hc : s[j] = 39
      · have ec : ((s[j].toNat : Int) == 39) = true := by simp [hc]
        rw [if_pos hc] at ht
        have HT := Lib.hid ht
        clear ht
        go_wp2_with fail
        go_round
        case rel =>
          refine ⟨j + 1, _, by omega, by go_num, rfl, ?_, ?_⟩
          · show _ = _
            rw [HT.out, ByteArray.data_append, ByteArray.data_append, Array.toList_append, Array.toList_append, HQ.out, HX.out, hc]
            simp
          · rw [ByteArray.size_append, ByteArray.size_append, hxs]
            show q.size + 1 + 1 ≤ _
            omega
        case measure => simp [intOf]; omega
      · have ec : ((s[j].toNat : Int) == 39) = false := by
          simp
          intro hh
          exact hc (UInt8.toNat_inj.1 (show s[j].toNat = 39 by omega))
        rw [if_neg hc] at ht
        have HT := Lib.hid ht
        clear ht
        go_wp2_with fail
        go_round
        case rel =>
          refine ⟨j + 1, _, by omega, by go_num, rfl, ?_, ?_⟩
          · show _ = _
            rw [HT.out, ByteArray.data_append, Array.toList_append, HQ.out, HX.out]
            simp
          · rw [ByteArray.size_append, hxs]
            omega
        case measure => simp [intOf]; omega
    · go_wp2_with fail
      go_ret
      refine ⟨ret_st ?_, al (Below.refl _ _) _⟩
      have h2 := HQ.out
      rw [List.take_of_length_le (by simpa using hlt)] at h2
      apply ByteArray.ext
      rw [ByteArray.data_append]
      apply Array.toList_inj.1
      rw [Array.toList_append, h2]
      simp
end Go.Proofs.YtphgbfgccagcbaaGreatDoor
namespace Go.Proofs.YtphgbfgccagcbaaGreatDoor
open Go.RowKit

theorem strB_text (s : ByteArray) : strB 3 0 s = 39 :: (quote s.data.toList ++ [39]) := by
  unfold strB
  rw [if_neg (by decide), if_pos rfl, all_quote]
end Go.Proofs.YtphgbfgccagcbaaGreatDoor
namespace Go.Proofs.YtphgbfgccagcbaaGreatDoor
open Go.RowKit

theorem dig_nat (d : Nat) (h : d < 10) : (UInt8.ofNat (48 + d)).toNat = 48 + d := by
  rw [UInt8.toNat_ofNat']; omega
theorem dec_dig (u : Nat) : Lib.decDigits u ≠ [] ∧ ∀ c ∈ Lib.decDigits u, 48 ≤ c.toNat ∧ c.toNat ≤ 57 := by
  induction u using Nat.strongRecOn with
  | _ u ih =>
    by_cases h : u < 10
    · rw [Lib.decDigits_one h]
      refine ⟨by simp, fun c hc => ?_⟩
      obtain rfl := List.mem_singleton.1 hc
      rw [dig_nat u h]; omega
    · rw [dec_step h]
      refine ⟨by simp, fun c hc => ?_⟩
      rcases List.mem_append.1 hc with hc | hc
      · exact (ih (u / 10) (by omega)).2 c hc
      · obtain rfl := List.mem_singleton.1 hc
        rw [dig_nat _ (by omega)]; omega
/-- the first digit, and what follows -/
theorem dec_head (u : Nat) : ∃ c r, Lib.decDigits u = c :: r ∧ 48 ≤ c.toNat ∧ c.toNat ≤ 57 := by
  obtain ⟨h1, h2⟩ := dec_dig u
  cases hl : Lib.decDigits u with
  | nil => exact absurd hl h1
  | cons c r =>
    have := h2 c (by rw [hl]; simp)
    exact ⟨c, r, rfl, this⟩
theorem parseM_append (M : Nat) (r : List UInt8) : ∀ (l : List UInt8) (acc a : Nat), Lib.parseUintM M acc l = .ok a → Lib.parseUintM M acc (l ++ r) = Lib.parseUintM M a r
  | [], acc, a, h => by
    unfold Lib.parseUintM at h
    injection h with h
    rw [h, List.nil_append]
  | c :: l, acc, a, h => by
    unfold Lib.parseUintM at h
    rw [List.cons_append, Lib.parseUintM]
    split at h
    · rename_i h1
      rw [if_pos h1]
      split at h
      · cases h
      · rename_i h2
        rw [if_neg h2]
        split at h
        · cases h
        · rename_i h3
          rw [if_neg h3]
          exact parseM_append M r l _ a h
    · cases h
theorem parse_dec (u : Nat) (hu : u ≤ 18446744073709551615) : Lib.parseUintM 18446744073709551615 0 (Lib.decDigits u) = .ok u := by
  induction u using Nat.strongRecOn with
  | _ u ih =>
    by_cases h : u < 10
    · rw [Lib.decDigits_one h]
      unfold Lib.parseUintM
      rw [if_pos (by rw [dig_nat u h]; omega), if_neg (by omega), if_neg (by rw [dig_nat u h]; omega)]
      unfold Lib.parseUintM
      rw [dig_nat u h]
      congr 1
      omega
    · rw [dec_step h, parseM_append _ _ _ _ _ (ih (u / 10) (by omega) (by omega))]
      have hd := dig_nat (u % 10) (by omega)
      unfold Lib.parseUintM
      rw [if_pos (by rw [hd]; omega), if_neg (by omega), if_neg (by rw [hd]; omega)]
      unfold Lib.parseUintM
      rw [hd]
      congr 1
      omega
theorem parse_itoa (n : Int) (h : I64 n) : Lib.parseIntB 64 (Lib.itoa n) = .ok n := by
  obtain ⟨h0, h1⟩ := h
  by_cases hn : n < 0
  · have e : Lib.itoa n = 45 :: Lib.decDigits n.natAbs := by unfold Lib.itoa; rw [if_pos hn]
    have hp : Lib.parseUintB 64 (Lib.decDigits n.natAbs) = .ok n.natAbs := by
      unfold Lib.parseUintB
      rw [if_neg (dec_dig _).1]
      exact parse_dec _ (by omega)
    rw [e]
    unfold Lib.parseIntB
    have e2 : (if (45 : UInt8).toNat = 43 ∨ (45 : UInt8).toNat = 45 then Lib.decDigits n.natAbs else 45 :: Lib.decDigits n.natAbs) = Lib.decDigits n.natAbs := if_pos (.inr rfl)
    simp only [e2, hp]
    rw [if_neg (by simp), if_neg (by simp; omega), if_pos (by rfl)]
    congr 1
    omega
  · have e : Lib.itoa n = Lib.decDigits n.toNat := by unfold Lib.itoa; rw [if_neg hn]
    have hp : Lib.parseUintB 64 (Lib.decDigits n.toNat) = .ok n.toNat := by
      unfold Lib.parseUintB
      rw [if_neg (dec_dig _).1]
      exact parse_dec _ (by omega)
    rw [e]
    obtain ⟨c, r, hc, hc0, hc1⟩ := dec_head n.toNat
    rw [hc] at hp ⊢
    unfold Lib.parseIntB
    have e2 : (if c.toNat = 43 ∨ c.toNat = 45 then r else c :: r) = c :: r := if_neg (by omega)
    simp only [e2, hp]
    rw [if_neg (by simp; omega), if_neg (by omega), if_neg (by omega)]
    congr 1
    omega
theorem itoa_head (n : Int) : ∃ c r, Lib.itoa n = c :: r ∧ (c.toNat = 45 ∨ 48 ≤ c.toNat ∧ c.toNat ≤ 57) := by
  unfold Lib.itoa
  split
  · exact ⟨45, _, rfl, .inl rfl⟩
  · obtain ⟨c, r, h, h1⟩ := dec_head n.toNat
    exact ⟨c, r, h, .inr h1⟩
theorem dec_len : ∀ (k u : Nat), u < 10 ^ (k + 1) → (Lib.decDigits u).length ≤ k + 1
  | 0, u, h => by rw [Lib.decDigits_one (by simpa using h)]; simp
  | k + 1, u, h => by
    by_cases h1 : u < 10
    · rw [Lib.decDigits_one h1]; simp
    · rw [dec_step h1, List.length_append]
      have := dec_len k (u / 10) (by rw [Nat.pow_succ] at h; omega)
      simpa using this
theorem itoa_len (n : Int) (h : I64 n) : (Lib.itoa n).length ≤ 20 ∧ 1 ≤ (Lib.itoa n).length := by
  obtain ⟨h0, h1⟩ := h
  have hd : ∀ u : Nat, u ≤ 9223372036854775808 → (Lib.decDigits u).length ≤ 19 := fun u hu => dec_len 18 u (by omega)
  have hp : ∀ u : Nat, 1 ≤ (Lib.decDigits u).length := fun u => by
    obtain ⟨c, r, h, _⟩ := dec_head u
    rw [h]; simp
  unfold Lib.itoa
  split
  · have := hd n.natAbs (by omega)
    simp; omega
  · have := hd n.toNat (by omega)
    have := hp n.toNat
    omega

/-! ### a number read from the left, turned round and wrapped -/
def numStep (n : Int) (c : UInt8) : Int := if 48 ≤ c.toNat ∧ c.toNat ≤ 57 then wrap64 (wrap64 (n * 10) - ((c.toNat : Int) - 48)) else n
def numFold (l : List UInt8) : Int := l.foldl numStep 0
theorem wrap_id {x : Int} (h : I64 x) : wrap64 x = x := by
  obtain ⟨h0, h1⟩ := h
  unfold wrap64
  omega
theorem fold_dec (u : Nat) (hu : u ≤ 9223372036854775808) : numFold (Lib.decDigits u) = -(u : Int) := by
  induction u using Nat.strongRecOn with
  | _ u ih =>
    by_cases h : u < 10
    · rw [Lib.decDigits_one h]
      show numStep 0 _ = _
      unfold numStep
      rw [dig_nat u h, if_pos (by omega), wrap_id (x := 0 * 10) ⟨by omega, by omega⟩, wrap_id ⟨by omega, by omega⟩]
      omega
    · rw [dec_step h]
      have hi := ih (u / 10) (by omega) (by omega)
      unfold numFold at hi ⊢
      rw [List.foldl_append, hi]
      show numStep _ _ = _
      unfold numStep
      rw [dig_nat _ (by omega), if_pos (by omega), wrap_id (x := -((u / 10 : Nat) : Int) * 10) ⟨by omega, by omega⟩, wrap_id ⟨by omega, by omega⟩]
      omega
theorem fold_itoa (n : Int) (h : I64 n) : numFold (Lib.itoa n) = -(n.natAbs : Int) := by
  obtain ⟨h0, h1⟩ := h
  unfold Lib.itoa
  split
  · show numFold (Lib.decDigits n.natAbs) = _
    exact fold_dec _ (by omega)
  · rw [fold_dec _ (by omega)]
    omega

/-! ### every quote halved -/
theorem index_quote_hit (t : List UInt8) : Lib.index (39 :: 39 :: t) [39, 39] = 0 := by
  simp [Lib.index, List.isPrefixOf]
theorem index_cons_ne (c : UInt8) (t : List UInt8) (h : c ≠ 39) : Lib.index (c :: t) [39, 39] = if Lib.index t [39, 39] = -1 then -1 else Lib.index t [39, 39] + 1 := by
  have hc : ([39, 39] : List UInt8).isPrefixOf (c :: t) = false := by simp [List.isPrefixOf]; exact fun e => absurd e.symm h
  rw [Lib.index, hc, if_neg (by decide)]
  by_cases hm : Lib.index t [39, 39] = -1
  · rw [if_pos (by simp [hm]), if_pos hm]
  · rw [if_neg (by simp [hm]), if_neg hm]
theorem count_cons_ne2 (c : UInt8) (t : List UInt8) (h : c ≠ 39) : Lib.count (c :: t) [39, 39] = Lib.count t [39, 39] := by
  have hi := index_cons_ne c t h
  by_cases hm : Lib.index t [39, 39] = -1
  · rw [if_pos hm] at hi
    rw [Lib.count_miss hi, Lib.count_miss hm]
  · rw [if_neg hm] at hi
    have hge := Lib.index_ge t [39, 39]
    obtain ⟨i, hti⟩ : ∃ i : Nat, Lib.index t [39, 39] = i := ⟨(Lib.index t [39, 39]).toNat, by omega⟩
    rw [Lib.count_hit (by simp) hti, Lib.count_hit (s := c :: t) (i := i + 1) (by simp) (by rw [hi, hti]; rfl)]
    simp
theorem repl_unquote : ∀ l : List UInt8, Lib.replaceK [39, 39] [39] (Lib.count (quote l) [39, 39]) (quote l) = l
  | [] => by
    have e : quote [] = [] := rfl
    rw [e]
    have : Lib.count [] [39, 39] = 0 := by decide
    rw [this]; rfl
  | c :: l => by
    have ih := repl_unquote l
    rw [quote_cons]
    by_cases h : c = 39
    · subst h
      rw [if_pos rfl]
      show Lib.replaceK [39, 39] [39] (Lib.count (39 :: 39 :: quote l) [39, 39]) (39 :: 39 :: quote l) = _
      rw [Lib.count_hit (i := 0) (by simp) (index_quote_hit _), Nat.add_comm, Lib.replaceK_hit _ _ _ _ 0 (index_quote_hit _)]
      simp only [List.take_zero, List.nil_append, Nat.zero_add, List.length_cons, List.length_nil, List.drop_succ_cons, List.drop_zero]
      rw [ih]; rfl
    · rw [if_neg h]
      show Lib.replaceK [39, 39] [39] (Lib.count (c :: quote l) [39, 39]) (c :: quote l) = _
      rw [count_cons_ne2 _ _ h]
      cases hk : Lib.count (quote l) [39, 39] with
      | zero => rw [hk] at ih; have : quote l = l := ih; rw [this]; rfl
      | succ k =>
        rw [hk] at ih
        obtain ⟨i, hi⟩ := Lib.index_of_count (s := quote l) (old := [39, 39]) (by omega)
        have hi' : Lib.index (c :: quote l) [39, 39] = ((i + 1 : Nat) : Int) := by
          rw [index_cons_ne _ _ h, if_neg (by omega), hi]; rfl
        rw [Lib.replaceK_hit _ _ _ _ _ hi']
        rw [Lib.replaceK_hit _ _ _ _ _ hi] at ih
        have e : (c :: quote l).drop (i + 1 + ([39, 39] : List UInt8).length) = (quote l).drop (i + ([39, 39] : List UInt8).length) := by
          simp
        rw [e, List.take_succ_cons, List.cons_append, List.cons_append, ih]
theorem all_unquote (l : List UInt8) : Lib.replaceAll (quote l) [39, 39] [39] = l := by
  unfold Lib.replaceAll Lib.replace
  rw [if_neg (by decide)]
  have hn : Lib.replaceNum (quote l) [39, 39] (-1) = Lib.count (quote l) [39, 39] := by unfold Lib.replaceNum; rw [if_pos (Or.inl (by decide))]
  rw [hn]
  exact repl_unquote l
theorem trim_quote (l : List UInt8) : Lib.trimSuffix (Lib.trimPrefix (39 :: (quote l ++ [39])) [39]) [39] = quote l := by
  have e1 : Lib.trimPrefix (39 :: (quote l ++ [39])) [39] = quote l ++ [39] := by
    unfold Lib.trimPrefix Lib.hasPrefix
    rw [if_pos (by simp [List.isPrefixOf])]; rfl
  rw [e1]
  unfold Lib.trimSuffix Lib.hasSuffix
  rw [if_pos (List.isSuffixOf_iff_suffix.2 (List.suffix_append _ _))]
  simp

/-! ### the value of a value's string -/
theorem ba_list {a b : ByteArray} (h : a.data.toList = b.data.toList) : a = b := ByteArray.ext (Array.toList_inj.1 h)
theorem readV_int (n : Int) (h : I64 n) : readV ⟨(Lib.itoa n).toArray⟩ = ⟨1, n, ⟨#[]⟩⟩ := by
  obtain ⟨c, r, hc, hr⟩ := itoa_head n
  have hp := parse_itoa n h
  have hnum : numV ⟨(Lib.itoa n).toArray⟩ = n := by
    unfold numV
    show (match Lib.parseIntB 64 (Lib.itoa n) with | .ok v => v | .range => Lib.intSat 64 (Lib.itoa n) | _ => 0) = n
    rw [hp]
  have hne : ∀ (d : UInt8) (t : List UInt8), (d.toNat ≠ 45 ∧ ¬ (48 ≤ d.toNat ∧ d.toNat ≤ 57)) → (⟨(Lib.itoa n).toArray⟩ : ByteArray) ≠ ⟨(d :: t).toArray⟩ := fun d t hd e => by
    have e2 : Lib.itoa n = d :: t := by
      have := congrArg (fun x : ByteArray => x.data.toList) e
      simpa using this
    rw [hc] at e2
    injection e2 with e3 _
    subst e3
    omega
  have h0 : (⟨(Lib.itoa n).toArray⟩ : ByteArray) ≠ ⟨#[]⟩ := fun e => by
    have := congrArg (fun x : ByteArray => x.data.toList) e
    rw [hc] at this
    simp at this
  have n1 : (⟨(Lib.itoa n).toArray⟩ : ByteArray) ≠ sNull := hne 110 [117, 108, 108] (by decide)
  have n2 : (⟨(Lib.itoa n).toArray⟩ : ByteArray) ≠ sFalse := hne 102 [97, 108, 115, 101] (by decide)
  have n3 : (⟨(Lib.itoa n).toArray⟩ : ByteArray) ≠ sTrue := hne 116 [114, 117, 101] (by decide)
  unfold readV
  rw [if_neg n1, if_neg h0, if_neg n2, if_neg n3, if_neg, hnum]
  show ¬ Lib.hasPrefix (Lib.itoa n) [39] = true
  rw [hc]
  unfold Lib.hasPrefix
  simp [List.isPrefixOf]
  intro e
  subst e
  revert hr
  decide
theorem readV_text (s : ByteArray) : readV ⟨(39 :: (quote s.data.toList ++ [39])).toArray⟩ = ⟨3, 0, s⟩ := by
  have hne : ∀ (d : UInt8) (t : List UInt8), d ≠ 39 → (⟨(39 :: (quote s.data.toList ++ [39])).toArray⟩ : ByteArray) ≠ ⟨(d :: t).toArray⟩ := fun d t hd e => by
    have e2 : 39 :: (quote s.data.toList ++ [39]) = d :: t := by
      have := congrArg (fun x : ByteArray => x.data.toList) e
      simpa using this
    injection e2 with e3 _
    exact hd e3.symm
  have h0 : (⟨(39 :: (quote s.data.toList ++ [39])).toArray⟩ : ByteArray) ≠ ⟨#[]⟩ := fun e => by
    have := congrArg (fun x : ByteArray => x.data.toList) e
    simp at this
  have ht : textV ⟨(39 :: (quote s.data.toList ++ [39])).toArray⟩ = s := by
    unfold textV
    apply ba_list
    show Lib.replaceAll (Lib.trimSuffix (Lib.trimPrefix (39 :: (quote s.data.toList ++ [39])) [39]) [39]) [39, 39] [39] = _
    rw [trim_quote, all_unquote]
  have n1 : (⟨(39 :: (quote s.data.toList ++ [39])).toArray⟩ : ByteArray) ≠ sNull := hne 110 [117, 108, 108] (by decide)
  have n2 : (⟨(39 :: (quote s.data.toList ++ [39])).toArray⟩ : ByteArray) ≠ sFalse := hne 102 [97, 108, 115, 101] (by decide)
  have n3 : (⟨(39 :: (quote s.data.toList ++ [39])).toArray⟩ : ByteArray) ≠ sTrue := hne 116 [114, 117, 101] (by decide)
  unfold readV
  rw [if_neg n1, if_neg h0, if_neg n2, if_neg n3, if_pos, ht]
  show Lib.hasPrefix (39 :: (quote s.data.toList ++ [39])) [39] = true
  unfold Lib.hasPrefix
  simp [List.isPrefixOf]
/-- THE VALUE OF A VALUE'S STRING IS THE VALUE -/
theorem readV_strB (k n : Int) (s : ByteArray) (h0 : okVal k n s.data.toList = true) (hn : I64 n) : readV ⟨(strB k n s).toArray⟩ = ⟨k, n, s⟩ := by
  rcases ok_cases h0 with ⟨rfl, rfl, rfl⟩ | ⟨rfl, rfl⟩ | ⟨rfl, rfl, rfl⟩ | ⟨rfl, rfl, rfl⟩ | ⟨rfl, rfl, ht⟩
  · exact if_pos rfl
  · exact readV_int n hn
  · exact (if_neg (by decide)).trans ((if_neg (by decide)).trans (if_pos rfl))
  · exact (if_neg (by decide)).trans ((if_neg (by decide)).trans ((if_neg (by decide)).trans (if_pos rfl)))
  · rw [strB_text]
    exact readV_text s
theorem toList_eq (s : ByteArray) : s.toList = s.data.toList := Lib.toList_data s
theorem parses_iff (s : ByteArray) : parses s = true ↔ V.ok (readV s) = true ∧ (⟨(strB (readV s).k (readV s).n (readV s).s).toArray⟩ : ByteArray) = s := by
  unfold parses
  rw [Bool.and_eq_true, beq_iff_eq]
  constructor
  · rintro ⟨h1, h2⟩
    refine ⟨h1, ba_list ?_⟩
    rw [toList_eq, toList_eq] at h2
    exact h2
  · rintro ⟨h1, h2⟩
    exact ⟨h1, by rw [h2]⟩
theorem parses_strB (k n : Int) (s : ByteArray) (h0 : okVal k n s.data.toList = true) (hn : I64 n) : parses ⟨(strB k n s).toArray⟩ = true := by
  rw [parses_iff, readV_strB k n s h0 hn]
  exact ⟨h0, rfl⟩
end Go.Proofs.YtphgbfgccagcbaaGreatDoor
