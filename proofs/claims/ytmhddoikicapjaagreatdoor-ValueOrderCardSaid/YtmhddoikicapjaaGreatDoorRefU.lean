/-
  CONTRACT of the reference: Distinct.
-/
import Derived.Test.YtmhddoikicapjaaGreatDoorRefA
namespace Go.Proofs.YtmhddoikicapjaaGreatDoor
open Go.RowKit

theorem dd_first {l : List V} (h : 0 < l.length) : dd (l.take 1) = dd (l.take 0) ++ [l[0]] := by
  have := dd_take (l := l) (k := 0) h
  rw [this]
  unfold ddStep
  rw [if_neg (by simp [dd])]
theorem dd_same {l : List V} {k : Nat} (h : k + 1 < l.length) (e : l[k + 1] = l[k]) : dd (l.take (k + 1 + 1)) = dd (l.take (k + 1)) := by
  rw [dd_take h]
  unfold ddStep
  rw [if_pos (by rw [dd_prev (by omega), e])]
theorem dd_diff {l : List V} {k : Nat} (h : k + 1 < l.length) (e : l[k + 1] ≠ l[k]) : dd (l.take (k + 1 + 1)) = dd (l.take (k + 1)) ++ [l[k + 1]] := by
  rw [dd_take h]
  unfold ddStep
  rw [if_neg (by rw [dd_prev (by omega)]; intro h2; exact e (Option.some.inj h2).symm)]
theorem dd_len (l : List V) : (dd l).length ≤ l.length := by
  have := dd_take_len l l.length (Nat.le_refl _)
  rw [List.take_length] at this
  exact this
theorem ddStep_mem {l : List V} {x y : V} (h : y ∈ ddStep l x) : y ∈ l ∨ y = x := by
  unfold ddStep at h
  split at h
  · exact .inl h
  · simpa using h
theorem dd_take_mem (l : List V) : ∀ k, k ≤ l.length → ∀ y ∈ dd (l.take k), y ∈ l
  | 0, _, y, h => by simp [dd] at h
  | k + 1, hk, y, h => by
    rw [dd_take (by omega)] at h
    rcases ddStep_mem h with h | rfl
    · exact dd_take_mem l k (by omega) y h
    · exact List.getElem_mem _
theorem dd_mem {l : List V} {y : V} (h : y ∈ dd l) : y ∈ l := dd_take_mem l l.length (Nat.le_refl _) y (by rw [List.take_length]; exact h)
theorem veq_no {x y : V} (h : x ≠ y) : veq x.k x.n x.s y.k y.n y.s = false := by
  cases hv : veq x.k x.n x.s y.k y.n y.s with
  | false => rfl
  | true => exact absurd (veq_iff.1 hv) h
theorem veq_yes {x y : V} (h : x = y) : veq x.k x.n x.s y.k y.n y.s = true := by subst h; exact veq_self _ _ _

set_option maxHeartbeats 1000000 in
set_option maxRecDepth 100000 in
theorem rDistinct_any (A : Option Addr) (c : Nat) (l : List V) (w : World) (hr : VReads w w.heap.size A l) (hf : VFit l) (hc : l.length ≤ c) (hn : l.length ≤ 1000000) :
    Calls Tryz.prog 14 #[.slice A l.length c] w fun e w' => ∃ v, e = .returned v ∧ w'.ownsRow w.heap.size 35 3 v (dd (srt l)).length (vcells (dd (srt l))) ∧ Below w.heap.size w w' := by
  obtain ⟨i0, hi, hz0, hz1, hz2⟩ := info_parts infoV
  have hsl := srt_len l
  go_enter Tryz.func14, Tryz.ntmps14
  go_wp2_with fail
  refine (rSorted_any (l.length + 1) A c l _ (Nat.lt_succ_self _) hr hf hc hn).mono ?_
  rintro e w1 ⟨v1, rfl, ho1, hb1⟩
  have hSn : (srt l).length ≤ 1000000 := by omega
  clear hsl hr hf hc hn
  generalize hS : srt l = S at *
  have HSE := Lib.hid hS
  clear hS
  obtain ⟨A1, c1, rfl, _, _, hr1, _⟩ := own_reads ho1
  have HR := Lib.hid hr1
  have HB1 := Lib.hid hb1
  clear ho1 hr1 hb1
  have hne := @neqV
  go_wp2_with fail
  go_loopw [4, 5] (fun v i wr => ∃ k : Nat, k ≤ S.length ∧ i = .int .i64 k ∧ Hid (wr.ownsRow w1.heap.size 35 3 v (dd (S.take k)).length (vcells (dd (S.take k)))) ∧ Hid (Below w1.heap.size w1 wr)) (fun _ i _ => S.length - (intOf i).toNat)
  case atStart => exact ⟨0, Nat.zero_le _, rfl, ⟨rfl, .inl ⟨rfl, rfl⟩⟩, Below.refl _ _⟩
  case round =>
    obtain ⟨k, hk, rfl, HO, HB⟩ := hrel
    by_cases hlt : k < S.length
    · have hlti : (k : Int) < (S.length : Int) := by omega
      obtain ⟨b1, o1, rfl, hk1, l0, l1, l2⟩ := (HR.out.below HB.out HB.out.size).at_ hlt
      have HD := Lib.hid (dd_take_len S k hk)
      have la0 : ∀ q, (wr.drewN q).cell? ⟨b1, o1 + k * 3, none⟩ = some (.int .i64 S[k].k) := fun q => l0
      have la1 : ∀ q, (wr.drewN q).cell? ⟨b1, o1 + k * 3 + 1, none⟩ = some (.int .i64 S[k].n) := fun q => l1
      have la2 : ∀ q, (wr.drewN q).cell? ⟨b1, o1 + k * 3 + 2, none⟩ = some (.string S[k].s) := fun q => l2
      rcases Nat.eq_zero_or_pos k with hk0 | hk0
      · have hkz : ((k : Int) == 0) = true := by simp [hk0]
        have hk0i : (0 : Int) ≤ (k : Int) := by omega
        have HE : Hid (dd (S.take (k + 1)) = dd (S.take k) ++ [S[k]]) := by subst hk0; exact dd_first hlt
        clear hk0
        go_wp2_with fail
        go_quiet (fail)
        go_wp2_with (at_builtin; refine wpList_append_any _ rfl (.tmp 28) (.tmp 33) 22 rfl w1.heap.size 35 i0 (.agg #[.int .i64 0, .int .i64 0, .string ⟨#[]⟩]) 3 32 Tryz.underlying22 hi hz0 hz1 hz2 rfl (by decide) _ _ _ rfl ((own_below HO.out (below_drewN (Below.refl _ _) nq)).alloc _) ((wr.drewN nq).heap.size + 1) _ 1 1 (vcells [S[k]]) rfl ?c0 ?c1 ?c2 ?c3 ?c4 ?_)
        case c0 => exact (VReads.one (Blk.new' (g := (wr.drewN nq).heap.size) rfl) (Nat.lt_succ_self _)).reads
        case c1 => exact vcells_one _
        case c2 => have := HD.out; unfold maxLen; omega
        case c3 => have := HD.out; omega
        case c4 => have := HB.out.size; show w1.heap.size ≤ _; simp <;> omega
        intro v' w2 hown2 hgrow2 _
        have HO2 : Hid (w2.ownsRow w1.heap.size 35 3 v' (dd (S.take (k + 1))).length (vcells (dd (S.take (k + 1))))) := by
          rw [HE.out, vcells_append, List.length_append]
          exact hown2
        have HB2 : Hid (Below w1.heap.size w1 w2) := (al (below_drewN HB.out nq) _).grown hgrow2 (by have := HB.out.size; show w1.heap.size ≤ _; simp <;> omega) (own_base HO.out)
        clear hown2 hgrow2
        go_wp2_with fail
        go_roundw
        case rel => exact ⟨k + 1, by omega, by go_num, HO2, HB2⟩
        case measure => simp [intOf]; omega
      · obtain ⟨j, hkj⟩ : ∃ j, k = j + 1 := ⟨k - 1, by omega⟩
        have hj : j < S.length := by omega
        have hkz : ((k : Int) == 0) = false := beq_eq_false_iff_ne.2 (by omega)
        have hjw : wrap64 ((k : Int) - 1) = (j : Int) := by unfold wrap64; omega
        have hjw2 : IntKind.i64.wrap ((k : Int) - 1) = (j : Int) := by rw [IntKind.wrap_i64]; omega
        have hji : (j : Int) < (S.length : Int) := by omega
        have hj0 : (0 : Int) ≤ (j : Int) := by omega
        have hk0i : (0 : Int) ≤ (k : Int) := by omega
        obtain ⟨b1', o1', ha, _, m0, m1, m2⟩ := (HR.out.below HB.out HB.out.size).at_ hj
        injection ha with ha
        injection ha with e1 e2
        subst e1 e2
        by_cases he : S[k] = S[j]
        · have hv := veq_yes he
          have HE : Hid (dd (S.take (k + 1)) = dd (S.take k)) := by subst hkj; exact dd_same hlt he
          have HKJ := Lib.hid hkj
          clear he hkj
          go_wp2_with fail
          go_quiet (fail)
          go_wp2_with fail
          go_roundw
          case rel => exact ⟨k + 1, by omega, by go_num, by rw [HE.out]; exact own_below HO.out (below_drewN (Below.refl _ _) _), below_drewN HB.out _⟩
          case measure => simp [intOf]; omega
        · have hv := veq_no he
          have HE : Hid (dd (S.take (k + 1)) = dd (S.take k) ++ [S[k]]) := by subst hkj; exact dd_diff hlt he
          have HKJ := Lib.hid hkj
          clear he hkj
          go_wp2_with fail
          go_quiet (fail)
          go_wp2_with (at_builtin; refine wpList_append_any _ rfl (.tmp 28) (.tmp 33) 22 rfl w1.heap.size 35 i0 (.agg #[.int .i64 0, .int .i64 0, .string ⟨#[]⟩]) 3 32 Tryz.underlying22 hi hz0 hz1 hz2 rfl (by decide) _ _ _ rfl ((own_below HO.out (below_drewN (Below.refl _ _) nq)).alloc _) ((wr.drewN nq).heap.size + 1) _ 1 1 (vcells [S[k]]) rfl ?c0 ?c1 ?c2 ?c3 ?c4 ?_)
          case c0 => exact (VReads.one (Blk.new' (g := (wr.drewN nq).heap.size) rfl) (Nat.lt_succ_self _)).reads
          case c1 => exact vcells_one _
          case c2 => have := HD.out; unfold maxLen; omega
          case c3 => have := HD.out; omega
          case c4 => have := HB.out.size; show w1.heap.size ≤ _; simp <;> omega
          intro v' w2 hown2 hgrow2 _
          have HO2 : Hid (w2.ownsRow w1.heap.size 35 3 v' (dd (S.take (k + 1))).length (vcells (dd (S.take (k + 1))))) := by
            rw [HE.out, vcells_append, List.length_append]
            exact hown2
          have HB2 : Hid (Below w1.heap.size w1 w2) := (al (below_drewN HB.out nq) _).grown hgrow2 (by have := HB.out.size; show w1.heap.size ≤ _; simp <;> omega) (own_base HO.out)
          clear hown2 hgrow2
          go_wp2_with fail
          go_roundw
          case rel => exact ⟨k + 1, by omega, by go_num, HO2, HB2⟩
          case measure => simp [intOf]; omega
    · have HE : Hid (dd (S.take k) = dd S) := by
        show _ = _
        rw [List.take_of_length_le (by omega)]
      go_wp2_with fail
      go_ret
      exact ⟨_, rfl, by rw [HSE.out, ← HE.out]; exact own_lower HO.out HB1.out.size, thn HB1.out HB.out⟩
end Go.Proofs.YtmhddoikicapjaaGreatDoor
