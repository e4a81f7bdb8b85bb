/-
  CONTRACT of the reference: String of a text. Every quote doubled: two ways to say it.
-/
import Derived.Test.YtmhddoikicapjaaDoorRefD
import Derived.Test.YtmhddoikicapjaaDoorVal8
namespace Go.Proofs.YtmhddoikicapjaaDoor
open Go.RowKit

/-- every quote doubled -/
def quote (l : List UInt8) : List UInt8 := l.flatMap fun c => if c = 39 then [39, 39] else [c]
theorem quote_cons (c : UInt8) (l : List UInt8) : quote (c :: l) = (if c = 39 then [39, 39] else [c]) ++ quote l := rfl
theorem quote_append (l r : List UInt8) : quote (l ++ r) = quote l ++ quote r := by simp [quote]
theorem repl_quote : ∀ s : List UInt8, Lib.replaceK [39] [39, 39] (Lib.count s [39]) s = quote s
  | [] => by rw [Lib.count_one]; rfl
  | c :: l => by
    have ih := repl_quote l
    rw [quote_cons]
    by_cases h : c = 39
    · subst h
      rw [if_pos rfl, Lib.count_cons_eq, Nat.add_comm, Lib.replaceK_hit _ _ _ _ 0 (by rfl)]
      simp only [List.take_zero, List.nil_append, Nat.zero_add, List.length_singleton, List.drop_succ_cons, List.drop_zero]
      rw [ih]
    · rw [if_neg h, Lib.count_cons_ne _ _ _ h]
      cases hk : Lib.count l [39] with
      | zero => rw [hk] at ih; rw [← ih]; rfl
      | succ k =>
        rw [hk] at ih
        obtain ⟨i, hi⟩ := Lib.index_of_count (s := l) (old := [39]) (by omega)
        have hi' : Lib.index (c :: l) [39] = ((i + 1 : Nat) : Int) := by
          have hc : ([39] : List UInt8).isPrefixOf (c :: l) = false := by simp [List.isPrefixOf]; exact fun e => h e.symm
          have hm : ¬ (Lib.index l [39] == -1) = true := fun e => by have := beq_iff_eq.1 e; omega
          rw [Lib.index, hc, if_neg (by decide), if_neg hm, hi]; rfl
        rw [Lib.replaceK_hit _ _ _ _ _ hi'] 
        rw [Lib.replaceK_hit _ _ _ _ _ hi] at ih
        rw [← ih]
        simp
theorem all_quote (s : List UInt8) : Lib.replaceAll s [39] [39, 39] = quote s := by
  unfold Lib.replaceAll Lib.replace
  rw [if_neg (by decide)]
  have hn : Lib.replaceNum s [39] (-1) = Lib.count s [39] := by unfold Lib.replaceNum; rw [if_pos (Or.inl (by decide))]
  rw [hn]
  exact repl_quote s

theorem extract_one (s : ByteArray) (j : Nat) (h : j < s.size) : (s.extract j (j + 1)).data.toList = [s[j]] := by
  rw [ByteArray.data_extract, Array.toList_extract]
  have hl : j < s.data.toList.length := by simpa using h
  simp only [List.extract_eq_take_drop, Nat.add_sub_cancel_left]
  rw [List.drop_eq_getElem_cons hl]
  rfl
theorem quote_take (s : ByteArray) (j : Nat) (h : j < s.size) : quote (s.data.toList.take (j + 1)) = quote (s.data.toList.take j) ++ (if s[j] = 39 then [39, 39] else [s[j]]) := by
  rw [take_snoc s j h, quote_append, quote_cons]
  simp [quote]

set_option maxHeartbeats 400000 in
theorem rString_text (n : Int) (s : ByteArray) (w : World) (hs : s.size ≤ 1000000) :
    Calls Tryd.prog 21 #[.agg #[.int .i64 3, .int .i64 n, .string s]] w fun e w' => e = .returned (.string ⟨(39 :: (quote s.data.toList ++ [39])).toArray⟩) ∧ Below w.heap.size w w' := by
  have hs := Nat.le_trans hs (Nat.le_refl _)
  go_enter Tryd.func21, Tryd.ntmps21
  go_wp2_with fail
  go_loop [3, 4] (fun t i => ∃ (j : Nat) (q : ByteArray), j ≤ s.size ∧ i = .int .i64 j ∧ t = .string q ∧ Hid (q.data.toList = 39 :: quote (s.data.toList.take j)) ∧ q.size ≤ 2 * j + 1) (fun _ i => s.size - (intOf i).toNat)
  case atStart => exact ⟨0, _, Nat.zero_le _, rfl, rfl, rfl, by decide⟩
  case round =>
    obtain ⟨j, q, hj, rfl, rfl, HQ, hq⟩ := hrel
    have hj0 : (0 : Int) ≤ (j : Int) := by omega
    by_cases hlt : j < s.size
    · have hlti : (j : Int) < (s.size : Int) := by omega
      have hx := extract_one s j hlt
      have ht := quote_take s j hlt
      have HX := Lib.hid hx
      have hxs : (s.extract j (j + 1)).size = 1 := by
        rw [ByteArray.size_extract]; omega
      clear hx
      by_cases hc : s[j] = 39
      · have ec : ((s[j].toNat : Int) == 39) = true := by simp [hc]
        rw [if_pos hc] at ht
        have HT := Lib.hid ht
        clear ht
        go_wp2_with fail
        go_round
        case rel =>
          refine ⟨j + 1, _, by omega, by go_num, rfl, ?_, ?_⟩
          · show _ = _
            rw [HT.out, ByteArray.data_append, ByteArray.data_append, Array.toList_append, Array.toList_append, HQ.out, HX.out, hc]
            simp
          · rw [ByteArray.size_append, ByteArray.size_append, hxs]
            show q.size + 1 + 1 ≤ _
            omega
        case measure => simp [intOf]; omega
      · have ec : ((s[j].toNat : Int) == 39) = false := by
          simp
          intro hh
          exact hc (UInt8.toNat_inj.1 (show s[j].toNat = 39 by omega))
        rw [if_neg hc] at ht
        have HT := Lib.hid ht
        clear ht
        go_wp2_with fail
        go_round
        case rel =>
          refine ⟨j + 1, _, by omega, by go_num, rfl, ?_, ?_⟩
          · show _ = _
            rw [HT.out, ByteArray.data_append, Array.toList_append, HQ.out, HX.out]
            simp
          · rw [ByteArray.size_append, hxs]
            omega
        case measure => simp [intOf]; omega
    · go_wp2_with fail
      go_ret
      refine ⟨ret_st ?_, al (Below.refl _ _) _⟩
      have h2 := HQ.out
      rw [List.take_of_length_le (by simpa using hlt)] at h2
      apply ByteArray.ext
      rw [ByteArray.data_append]
      apply Array.toList_inj.1
      rw [Array.toList_append, h2]
      simp
end Go.Proofs.YtmhddoikicapjaaDoor
