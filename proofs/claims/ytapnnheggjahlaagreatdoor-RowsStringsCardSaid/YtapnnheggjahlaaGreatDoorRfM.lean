/-
  CONTRACTS of the reference of rows: Times, Distinct.
-/
import Derived.Test.YtapnnheggjahlaaGreatDoorGL
import Derived.Test.YtapnnheggjahlaaGreatDoorLngR
namespace Go.Proofs.YtapnnheggjahlaaGreatDoor
open Go.RowKit

theorem count_take {L : List (List V)} {k : Nat} (h : k < L.length) (r : List V) : (L.take (k + 1)).count r = (L.take k).count r + if cmpR L[k] r = 0 then 1 else 0 := by
  rw [List.take_succ_eq_append_getElem h, List.count_append]
  congr 1
  by_cases e : L[k] = r
  · rw [if_pos (cmpR_iff.2 e), e]; simp
  · rw [if_neg (fun h' => e (cmpR_iff.1 h'))]
    simp [e]
set_option maxHeartbeats 1000000 in
theorem RTimes_any (A A' : Option Addr) (c c' : Nat) (L : List (List V)) (r : List V) (w : World) (hr : LReads w w.heap.size A L) (hr' : VReads w w.heap.size A' r) (hf : ∀ q ∈ L, q.length ≤ maxLen ∧ VFit q) (hfr : VFit r) (hnr : r.length ≤ maxLen) (hL : L.length ≤ 1000000) :
    Calls Tryz.prog 33 #[.slice A L.length c, .slice A' r.length c'] w fun e w' => e = .returned (.int .i64 (L.count r : Nat)) ∧ Below w.heap.size w w' := by
  have HR := Lib.hid (And.intro hr (And.intro hr' (And.intro hf (And.intro hfr hnr))))
  clear hr hr' hf hfr hnr
  go_enter Tryz.func33, Tryz.ntmps33
  go_wp2
  go_loopw [5, 6] (fun n i wr => ∃ k m : Nat, k ≤ L.length ∧ m ≤ k ∧ i = .int .i64 k ∧ n = .int .i64 m ∧ Hid (m = (L.take k).count r ∧ Below w.heap.size w wr)) (fun _ i _ => L.length - (intOf i).toNat)
  case atStart => exact ⟨0, 0, Nat.zero_le _, Nat.le_refl _, rfl, rfl, by simp, Below.refl _ _⟩
  case round =>
    obtain ⟨k, m, hk, hm, rfl, rfl, HI⟩ := hrel
    by_cases hlt : k < L.length
    · obtain ⟨p, o, Ap, cp, rfl, hblk, hc, _, hv⟩ := (HR.out.1.below HI.out.2 HI.out.2.size).at_ hlt
      have hfa := HR.out.2.2.1 L[k] (List.getElem_mem hlt)
      have HV := Lib.hid (And.intro hv hfa)
      have HC := Lib.hid (count_take hlt r)
      clear hv hfa
      go_wp2_with fail
      refine (RCompare_rows Ap A' cp c' L[k] r wr HV.out.1 (HR.out.2.1.below HI.out.2 HI.out.2.size) HV.out.2.2 HR.out.2.2.2.1 HV.out.2.1 HR.out.2.2.2.2).mono ?_
      rintro e w1 ⟨rfl, hb1⟩
      have HB := Lib.hid (thn HI.out.2 hb1)
      clear hb1
      generalize cmpR L[k] r = q at *
      by_cases hq : q = 0
      · have HN : Hid (m + 1 = (L.take (k + 1)).count r) := by
          show _ = _
          rw [HC.out, if_pos hq, HI.out.1]
        subst hq
        clear HC
        go_wp2_with fail
        go_roundw
        case rel => exact ⟨k + 1, m + 1, by omega, by omega, by go_num, by go_num, HN.out, HB.out⟩
        case measure => simp [intOf]; omega
      · have HN : Hid (m = (L.take (k + 1)).count r) := by
          show _ = _
          rw [HC.out, if_neg hq, HI.out.1]; rfl
        have hqb : (q == 0) = false := by simp [hq]
        clear hq HC
        go_wp2_with fail
        go_roundw
        case rel => exact ⟨k + 1, m, by omega, by omega, by go_num, rfl, HN.out, HB.out⟩
        case measure => simp [intOf]; omega
    · have HE : Hid (m = L.count r) := by
        have := HI.out.1
        rwa [List.take_of_length_le (by omega)] at this
      go_wp2_with fail
      go_ret
      exact ⟨ret_int (by rw [HE.out]), HI.out.2⟩

theorem cmpR_ne {a b : List V} (h : cmpR a b ≠ 0) : a ≠ b := fun e => h (cmpR_iff.2 e)
set_option maxHeartbeats 2000000 in
set_option maxRecDepth 100000 in
theorem RDistinct_any (A : Option Addr) (c : Nat) (L : List (List V)) (w : World) (hr : LReads w w.heap.size A L) (hf : ∀ r ∈ L, r.length ≤ 1000000 ∧ VFit r) (hc : L.length ≤ c) (hn : L.length ≤ 1000000) :
    Calls Tryz.prog 34 #[.slice A L.length c] w fun e w' => ∃ A' c', e = .returned (.slice A' (ddR (canon L)).length c') ∧ LReads w' w'.heap.size A' (ddR (canon L)) ∧ Below w.heap.size w w' := by
  have HC := Lib.hid (RCanonical_any A c L w hr hf hc hn)
  have HF : Hid (∀ r ∈ canon L, r.length ≤ 1000000 ∧ VFit r) := fun r h => hf r (srtC_mem.1 h)
  have HL0 := Lib.hid (srtC_len (c := cmpR) L)
  obtain ⟨i0, hi, hz0, hz1, hz2⟩ := info_parts infoR
  clear hr hf hc
  go_enter Tryz.func34, Tryz.ntmps34
  go_wp2_with fail
  refine HC.out.mono ?_
  rintro e w1 ⟨A1, c1, rfl, hl, hb⟩
  have W1 := Lib.hid (And.intro hl hb)
  have hsl : (canon L).length = L.length := HL0.out
  clear hl hb HC HL0
  rw [← hsl] at hn
  rw [← hsl]
  clear hsl
  generalize hS : canon L = S at *
  have HS := Lib.hid hS
  clear hS
  go_wp2_with fail
  go_loopw [4, 5] (fun v i wr => ∃ k : Nat, k ≤ S.length ∧ i = .int .i64 k ∧ Hid (∃ vs, wr.ownsRow w1.heap.size 34 1 v (ddR (S.take k)).length vs ∧ RowsR wr w1.heap.size vs (ddR (S.take k)) ∧ Below w1.heap.size w1 wr)) (fun _ i _ => S.length - (intOf i).toNat)
  case atStart => exact ⟨0, Nat.zero_le _, rfl, [], ⟨rfl, .inl ⟨rfl, rfl⟩⟩, ⟨rfl, fun i r h => by simp [ddR] at h⟩, Below.refl _ _⟩
  case round =>
    obtain ⟨k, hk, rfl, HI⟩ := hrel
    by_cases hlt : k < S.length
    · have HB : Hid (Below w1.heap.size w1 wr) := HI.out.elim fun _ h => h.2.2
      obtain ⟨p, o, Ap, cp, rfl, hblk, hc, hp, hv⟩ := W1.out.1.at_ hlt
      have X1 : ∀ x : Aft wr, x.w.cell? ⟨p, o + k, none⟩ = some (.slice Ap S[k].length cp) := fun x => (x.h.cell (p := ⟨p, _, none⟩) (Nat.lt_of_lt_of_le hblk HB.out.size)).trans ((HB.out.cell (p := ⟨p, _, none⟩) hblk).trans hc)
      have hlti : (k : Int) < (S.length : Int) := by omega
      have HL := Lib.hid (Nat.le_trans (ddR_len (S.take k)) (Nat.le_trans (List.length_take_le k S) hk))
      have HV := Lib.hid (And.intro hp hv)
      have W1v := Lib.hid hv
      have HFa := Lib.hid (HF.out S[k] (List.getElem_mem hlt))
      clear hp hv hc
      rcases Nat.eq_zero_or_pos k with hk0 | hk0
      · have hkz : ((k : Int) == 0) = true := by simp [hk0]
        have hk0i : (0 : Int) ≤ (k : Int) := by omega
        have HE : Hid (ddR (S.take (k + 1)) = ddR (S.take k) ++ [S[k]]) := by
          subst hk0
          show _ = _
          rw [ddR_zero hlt]; rfl
        clear hk0
        go_wp2_with fail
        refine region_aft (by kernel_rfl) (by kernel_rfl) ?_
        repeat (go_big_quiet_step (fail))
        refine wpQuiet_nil ?_
        intro x9
        have d1 := X1 x9
        clear X1
        obtain ⟨vs, s1, s2, s3⟩ := HI.out
        have q1 := Blk.new x9.w 34 #[.slice Ap S[k].length cp]
        have q2 := sread_one q1 (B := x9.w.heap.size + 1) (by omega)
        have H9 := Lib.hid (And.intro ((own_below s1 x9.h).alloc (.cells #[.slice Ap S[k].length cp] 34)) (And.intro q2 (And.intro s2 s3)))
        have HB9 := Lib.hid (thn HB.out x9.h)
        clear s1 s2 s3 q1 q2 HI
        go_wp2_with (at_builtin; refine wpList_append_any _ rfl (.tmp 29) (.tmp 34) 23 rfl w1.heap.size 34 i0 (.slice none 0 0) 1 24 Tryz.underlying23 hi hz0 hz1 hz2 rfl (by decide) _ _ _ rfl H9.out.1 (x9.w.heap.size + 1) _ 1 1 [.slice Ap S[k].length cp] rfl H9.out.2.1 ?c1 ?c2 ?c3 ?c4 ?_)
        case c1 => intro u hu; simp only [List.mem_cons, List.not_mem_nil, or_false] at hu; subst hu; rfl
        case c2 => have := HL.out; unfold maxLen; omega
        case c3 => have := HL.out; omega
        case c4 => have := HB9.out.size; simp <;> omega
        intro v2 w2 hown2 hgr2 _
        have HN2 : Hid (∃ vs, w2.ownsRow w1.heap.size 34 1 v2 (ddR (S.take (k + 1))).length vs ∧ RowsR w2 w1.heap.size vs (ddR (S.take (k + 1))) ∧ Below w1.heap.size w1 w2) := by
          obtain ⟨x1, x2, x3, x4⟩ := H9.out
          have hB2 : Below w1.heap.size w1 w2 := (al HB9.out _).grown hgr2 (by have := HB9.out.size; simp <;> omega) (own_base x1)
          have hB3 : Below w1.heap.size wr w2 := (x9.h.mono HB.out.size).trans (((Below.refl _ _).alloc HB9.out.size _).grown hgr2 (by have := HB9.out.size; simp <;> omega) (own_base x1))
          rw [HE.out, List.length_append]
          exact ⟨_, hown2, (x3.below hB3).snoc HV.out.1 (W1v.out.below hB2 (Nat.le_refl _)), hB2⟩
        clear hown2 hgr2
        go_wp2_with fail
        go_roundw
        case rel => exact ⟨k + 1, by omega, by go_num, HN2.out⟩
        case measure => simp [intOf]; omega
      · obtain ⟨j, hkj⟩ : ∃ j, k = j + 1 := ⟨k - 1, by omega⟩
        have hj : j < S.length := by omega
        have hkz : ((k : Int) == 0) = false := beq_eq_false_iff_ne.2 (by omega)
        have hjw : wrap64 ((k : Int) - 1) = (j : Int) := by unfold wrap64; omega
        have hjw2 : IntKind.i64.wrap ((k : Int) - 1) = (j : Int) := by rw [IntKind.wrap_i64]; omega
        have hji : (j : Int) < (S.length : Int) := by omega
        have hj0 : (0 : Int) ≤ (j : Int) := by omega
        have hk0i : (0 : Int) ≤ (k : Int) := by omega
        obtain ⟨p', o', Aq, cq, ha, hblk', hc', hp', hv'⟩ := W1.out.1.at_ hj
        injection ha with ha
        injection ha with e1 e2
        subst e1 e2
        have X2 : ∀ x : Aft wr, x.w.cell? ⟨p, o + j, none⟩ = some (.slice Aq S[j].length cq) := fun x => (x.h.cell (p := ⟨p, _, none⟩) (Nat.lt_of_lt_of_le hblk HB.out.size)).trans ((HB.out.cell (p := ⟨p, _, none⟩) hblk).trans hc')
        have hfb := HF.out S[j] (List.getElem_mem hj)
        have HX : Hid (∀ x : Aft wr, Calls Tryz.prog 26 #[.slice Ap S[k].length cp, .slice Aq S[j].length cq] x.w fun e w' => e = .returned (.int .i64 (cmpR S[k] S[j])) ∧ Below x.w.heap.size x.w w') := fun x => RCompare_rows Ap Aq cp cq S[k] S[j] x.w ((W1v.out.below HB.out HB.out.size).below x.h x.h.size) ((hv'.below HB.out HB.out.size).below x.h x.h.size) HFa.out.2 hfb.2 (by have := HFa.out.1; unfold maxLen; omega) (by have := hfb.1; unfold maxLen; omega)
        have HE1 : Hid (cmpR S[k] S[j] = 0 → ddR (S.take (k + 1)) = ddR (S.take k)) := fun h => by
          subst hkj
          exact ddR_same (by omega) hlt (cmpR_eq _ _ h)
        have HE2 : Hid (cmpR S[k] S[j] ≠ 0 → ddR (S.take (k + 1)) = ddR (S.take k) ++ [S[k]]) := fun h => by
          subst hkj
          exact ddR_next (by omega) hlt (cmpR_ne h)
        clear hc' hp' hv' hfb hk0 hkj
        go_wp2_with fail
        refine region_aft (by kernel_rfl) (by kernel_rfl) ?_
        repeat (go_big_quiet_step ((exact aft_call (HX.out _))))
        refine wpQuiet_nil ?_
        intro x9
        have d1 := X1 x9
        clear X1 X2 HX
        generalize cmpR S[k] S[j] = q at *
        by_cases hq : q = 0
        · have HE := Lib.hid (HE1.out hq)
          have HN2 : Hid (∃ vs, x9.w.ownsRow w1.heap.size 34 1 u4 (ddR (S.take (k + 1))).length vs ∧ RowsR x9.w w1.heap.size vs (ddR (S.take (k + 1))) ∧ Below w1.heap.size w1 x9.w) := by
            obtain ⟨vs, s1, s2, s3⟩ := HI.out
            rw [HE.out]
            exact ⟨vs, own_below s1 x9.h, s2.below (x9.h.mono HB.out.size), thn s3 x9.h⟩
          subst hq
          clear HE1 HE2 HE
          go_wp2_with fail
          go_roundw
          case rel => exact ⟨k + 1, by omega, by go_num, HN2.out⟩
          case measure => simp [intOf]; omega
        · have HE := Lib.hid (HE2.out hq)
          have hqb : (q != 0) = true := by simp [hq]
          clear hq HE1 HE2
          obtain ⟨vs, s1, s2, s3⟩ := HI.out
          have q1 := Blk.new x9.w 34 #[.slice Ap S[k].length cp]
          have q2 := sread_one q1 (B := x9.w.heap.size + 1) (by omega)
          have H9 := Lib.hid (And.intro ((own_below s1 x9.h).alloc (.cells #[.slice Ap S[k].length cp] 34)) (And.intro q2 (And.intro s2 s3)))
          have HB9 := Lib.hid (thn HB.out x9.h)
          clear s1 s2 s3 q1 q2 HI
          go_wp2_with (at_builtin; refine wpList_append_any _ rfl (.tmp 29) (.tmp 34) 23 rfl w1.heap.size 34 i0 (.slice none 0 0) 1 24 Tryz.underlying23 hi hz0 hz1 hz2 rfl (by decide) _ _ _ rfl H9.out.1 (x9.w.heap.size + 1) _ 1 1 [.slice Ap S[k].length cp] rfl H9.out.2.1 ?c1 ?c2 ?c3 ?c4 ?_)
          case c1 => intro u hu; simp only [List.mem_cons, List.not_mem_nil, or_false] at hu; subst hu; rfl
          case c2 => have := HL.out; unfold maxLen; omega
          case c3 => have := HL.out; omega
          case c4 => have := HB9.out.size; simp <;> omega
          intro v2 w2 hown2 hgr2 _
          have HN2 : Hid (∃ vs, w2.ownsRow w1.heap.size 34 1 v2 (ddR (S.take (k + 1))).length vs ∧ RowsR w2 w1.heap.size vs (ddR (S.take (k + 1))) ∧ Below w1.heap.size w1 w2) := by
            obtain ⟨x1, x2, x3, x4⟩ := H9.out
            have hB2 : Below w1.heap.size w1 w2 := (al HB9.out _).grown hgr2 (by have := HB9.out.size; simp <;> omega) (own_base x1)
            have hB3 : Below w1.heap.size wr w2 := (x9.h.mono HB.out.size).trans (((Below.refl _ _).alloc HB9.out.size _).grown hgr2 (by have := HB9.out.size; simp <;> omega) (own_base x1))
            rw [HE.out, List.length_append]
            exact ⟨_, hown2, (x3.below hB3).snoc HV.out.1 (W1v.out.below hB2 (Nat.le_refl _)), hB2⟩
          clear hown2 hgr2
          go_wp2_with fail
          go_roundw
          case rel => exact ⟨k + 1, by omega, by go_num, HN2.out⟩
          case measure => simp [intOf]; omega
    · have HE : Hid (ddR (S.take k) = ddR S) := by
        show _ = _
        rw [List.take_of_length_le (by omega)]
      obtain ⟨vs, s1, s2, s3⟩ := HI.out
      obtain ⟨A', c', rfl, hl⟩ := own_lreads s1 s2 s3.size
      have HL := Lib.hid (And.intro hl s3)
      rw [HE.out] at HL ⊢
      clear s1 s2 hl HI s3
      go_wp2_with fail
      go_ret
      rw [HS.out]
      exact ⟨A', c', rfl, HL.out.1, thn W1.out.2 HL.out.2⟩
end Go.Proofs.YtapnnheggjahlaaGreatDoor
