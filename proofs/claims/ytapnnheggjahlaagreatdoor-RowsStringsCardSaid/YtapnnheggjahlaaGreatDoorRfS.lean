/-
  CONTRACTS of the reference of rows: Both, Minus.
-/
import Derived.Test.YtapnnheggjahlaaGreatDoorRfM
namespace Go.Proofs.YtapnnheggjahlaaGreatDoor
open Go.RowKit

theorem bothR_len (all : Bool) (a b : List (List V)) : (bothR all a b).length ≤ a.length := by
  rw [both_eq]
  refine Nat.le_trans (hds_sum (fun x => nBoth all (a.count x) (b.count x)) (srtC_rises cmpR_WO a) fun x _ => ?_) (Nat.le_of_eq (srtC_len a))
  rw [count_canon]
  exact nBoth_le all _ _
theorem minusR_len (all : Bool) (a b : List (List V)) : (minusR all a b).length ≤ a.length := by
  rw [minus_eq]
  refine Nat.le_trans (hds_sum (fun x => nMinus all (a.count x) (b.count x)) (srtC_rises cmpR_WO a) fun x hx => ?_) (Nat.le_of_eq (srtC_len a))
  rw [count_canon]
  exact nMinus_le all _ _ (List.count_pos_iff.2 (srtC_mem.1 hx))
theorem bothR_mem {all : Bool} {a b : List (List V)} {x : List V} (h : x ∈ bothR all a b) : x ∈ a := by
  rw [both_eq] at h
  obtain ⟨y, hy, hx⟩ := List.mem_flatMap.1 h
  rw [List.eq_of_mem_replicate hx]
  exact srtC_mem.1 (ddR_mem hy)
theorem minusR_mem {all : Bool} {a b : List (List V)} {x : List V} (h : x ∈ minusR all a b) : x ∈ a := by
  rw [minus_eq] at h
  obtain ⟨y, hy, hx⟩ := List.mem_flatMap.1 h
  rw [List.eq_of_mem_replicate hx]
  exact srtC_mem.1 (ddR_mem hy)
theorem part_len {D : List (List V)} {F : List V → List (List V)} {n : Nat} (h : (D.flatMap F).length ≤ n) {k : Nat} (hk : k < D.length) {m N : Nat} (hm : m ≤ N) (hF : F D[k] = List.replicate N D[k]) :
    ((D.take k).flatMap F ++ List.replicate m D[k]).length ≤ n := by
  have h1 := flat_take_len D F (k + 1)
  rw [flat_succ hk, hF, List.length_append, List.length_replicate] at h1
  rw [List.length_append, List.length_replicate]
  omega

set_option maxHeartbeats 4000000 in
set_option maxRecDepth 100000 in
theorem RBoth_any (A A' : Option Addr) (c c' : Nat) (L L2 : List (List V)) (all : Bool) (w : World) (hr : LReads w w.heap.size A L) (hr2 : LReads w w.heap.size A' L2) (hf : ∀ r ∈ L, r.length ≤ 1000000 ∧ VFit r) (hf2 : ∀ r ∈ L2, r.length ≤ 1000000 ∧ VFit r) (hc : L.length ≤ c) (hn : L.length ≤ 1000000) (hn2 : L2.length ≤ 1000000) :
    Calls Tryz.prog 37 #[.slice A L.length c, .slice A' L2.length c', .bool all] w fun e w' => ∃ Ao co, e = .returned (.slice Ao (bothR all L L2).length co) ∧ LReads w' w'.heap.size Ao (bothR all L L2) ∧ Below w.heap.size w w' := by
  have HC := Lib.hid (RDistinct_any A c L w hr hf hc hn)
  have HM : Hid (∀ x ∈ ddR (canon L), x.length ≤ 1000000 ∧ VFit x) := fun x h => hf x (srtC_mem.1 (ddR_mem h))
  have HL : Hid (((ddR (canon L)).flatMap fun x => List.replicate (nBoth all (L.count x) (L2.count x)) x).length ≤ L.length) := by
    have := bothR_len all L L2
    rwa [both_eq] at this
  rw [both_eq]
  have HR := Lib.hid (And.intro hr (And.intro hr2 (And.intro (fun r h => And.intro (by have := (hf r h).1; unfold maxLen; omega) (hf r h).2 : ∀ r ∈ L, r.length ≤ maxLen ∧ VFit r) (And.intro (fun r h => And.intro (by have := (hf2 r h).1; unfold maxLen; omega) (hf2 r h).2 : ∀ r ∈ L2, r.length ≤ maxLen ∧ VFit r) (And.intro hn hn2)))))
  obtain ⟨i0, hi, hz0, hz1, hz2⟩ := info_parts infoR
  obtain ⟨i1, hj, hy0, hy1, hy2⟩ := info_parts infoV
  have hDl : (ddR (canon L)).length ≤ 1000000 := Nat.le_trans (ddR_len _) (by rw [srtC_len]; exact hn)
  clear hr hr2 hf hf2 hc hn hn2
  generalize ddR (canon L) = D at *
  generalize hF : (fun x => List.replicate (nBoth all (L.count x) (L2.count x)) x) = F at *
  have HF : Hid (∀ x, F x = List.replicate (nBoth all (L.count x) (L2.count x)) x) := fun x => by rw [← hF]
  clear hF
  go_enter Tryz.func37, Tryz.ntmps37
  go_wp2_with fail
  refine HC.out.mono ?_
  rintro e w1 ⟨A1, c1, rfl, hl, hb⟩
  have W1 := Lib.hid (And.intro hl hb)
  clear hl hb HC
  go_wp2_with fail
  go_loopw [8, 9] (fun v i wr => ∃ k : Nat, k ≤ D.length ∧ i = .int .i64 k ∧ Hid (∃ vs, wr.ownsRow w1.heap.size 34 1 v ((D.take k).flatMap F).length vs ∧ OwnRs wr w1.heap.size vs ((D.take k).flatMap F) ∧ Apart v vs ∧ Below w1.heap.size w1 wr)) (fun _ i _ => D.length - (intOf i).toNat)
  case atStart => exact ⟨0, Nat.zero_le _, rfl, [], ⟨rfl, .inl ⟨rfl, rfl⟩⟩, OwnRs.nil _ _, fun x hx => (by cases hx), Below.refl _ _⟩
  case round =>
    obtain ⟨k, hk, rfl, HI⟩ := hrel
    by_cases hlt : k < D.length
    · have HB : Hid (Below w1.heap.size w1 wr) := HI.out.elim fun _ h => h.2.2.2
      obtain ⟨p, o, Ap, cp, rfl, hblk, hc, hp, hv⟩ := W1.out.1.at_ hlt
      have X1 : ∀ x : Aft wr, x.w.cell? ⟨p, o + k, none⟩ = some (.slice Ap D[k].length cp) := fun x => (x.h.cell (p := ⟨p, _, none⟩) (Nat.lt_of_lt_of_le hblk HB.out.size)).trans ((HB.out.cell (p := ⟨p, _, none⟩) hblk).trans hc)
      have hlti : (k : Int) < (D.length : Int) := by omega
      have hk0i : (0 : Int) ≤ (k : Int) := by omega
      have HFa := Lib.hid (HM.out D[k] (List.getElem_mem hlt))
      have HV := Lib.hid (And.intro hc (And.intro hp (And.intro hv hblk)))
      have HT : ∀ x : Aft wr, Calls Tryz.prog 33 #[.slice A L.length c, .slice Ap D[k].length cp] x.w fun e w' => e = .returned (.int .i64 (L.count D[k] : Nat)) ∧ Below x.w.heap.size x.w w' := fun x => RTimes_any A Ap c cp L D[k] x.w (HR.out.1.below (thn (thn W1.out.2 HB.out) x.h) ((thn (thn W1.out.2 HB.out) x.h).size)) ((HV.out.2.2.1.below HB.out HB.out.size).below x.h x.h.size) HR.out.2.2.1 HFa.out.2 (by have := HFa.out.1; unfold maxLen; omega) HR.out.2.2.2.2.1
      have HT2 : ∀ x : Aft wr, Calls Tryz.prog 33 #[.slice A' L2.length c', .slice Ap D[k].length cp] x.w fun e w' => e = .returned (.int .i64 (L2.count D[k] : Nat)) ∧ Below x.w.heap.size x.w w' := fun x => RTimes_any A' Ap c' cp L2 D[k] x.w (HR.out.2.1.below (thn (thn W1.out.2 HB.out) x.h) ((thn (thn W1.out.2 HB.out) x.h).size)) ((HV.out.2.2.1.below HB.out HB.out.size).below x.h x.h.size) HR.out.2.2.2.1 HFa.out.2 (by have := HFa.out.1; unfold maxLen; omega) HR.out.2.2.2.2.2
      have HX := Lib.hid (And.intro HT HT2)
      have HE := Lib.hid (HF.out D[k])
      have HBL := Lib.hid (And.intro (List.count_le_length (a := D[k]) (l := L)) (And.intro (List.count_le_length (a := D[k]) (l := L2)) HR.out.2.2.2.2))
      have hcl : L.count D[k] ≤ 1000000 := Nat.le_trans HBL.out.1 HBL.out.2.2.1
      have hcl2 : L2.count D[k] ≤ 1000000 := Nat.le_trans HBL.out.2.1 HBL.out.2.2.2
      clear hp hv hc HT HT2 HBL
      go_wp2_with fail
      refine region_aft (by kernel_rfl) (by kernel_rfl) ?_
      repeat (go_big_quiet_step ((first | with_reducible exact aft_call (HX.out.1 _) | with_reducible exact aft_call (HX.out.2 _))))
      refine wpQuiet_nil ?_
      intro x9
      have d1 := X1 x9
      have HI9 : Hid (∃ vs, x9.w.ownsRow w1.heap.size 34 1 u8 ((D.take k).flatMap F).length vs ∧ OwnRs x9.w w1.heap.size vs ((D.take k).flatMap F) ∧ Apart u8 vs ∧ Below w1.heap.size w1 x9.w) := by
        obtain ⟨vs, s1, s2, s3, s4⟩ := HI.out
        exact ⟨vs, own_below s1 x9.h, s2.below x9.h, s3, thn s4 x9.h⟩
      clear X1 HX
      cases all
      · have hmin : min ((L.count D[k] : Nat) : Int) ((L2.count D[k] : Nat) : Int) = ((min (L.count D[k]) (L2.count D[k]) : Nat) : Int) := by omega
        rw [hmin]
        clear hmin
        generalize hM : min (L.count D[k]) (L2.count D[k]) = M at *
        have hmin1 : min (M : Int) 1 = ((min M 1 : Nat) : Int) := by omega
        generalize hN : min M 1 = N at *
        generalize hP : (D.take k).flatMap F = P at *
        have HP : Hid ((D.take k).flatMap F = P) := hP
        clear hP
        have HEN : Hid (F D[k] = List.replicate N D[k]) := by
          show _ = _
          rw [HE.out, ← hN, ← hM]
          congr 1
        have hN6 : N ≤ 1000000 := by omega
        clear hN hM HE HI d1
        go_wp2_with fail
        go_loopw [8, 11] (fun v i wq => ∃ m : Nat, m ≤ N ∧ i = .int .i64 m ∧ Hid (∃ vs, wq.ownsRow w1.heap.size 34 1 v (P.length + m) vs ∧ OwnRs wq w1.heap.size vs (P ++ List.replicate m D[k]) ∧ Apart v vs ∧ Below w1.heap.size w1 wq)) (fun _ i _ => N - (intOf i).toNat)
        case atStart => exact ⟨0, Nat.zero_le _, rfl, by simp only [List.replicate_zero, List.append_nil, Nat.add_zero]; exact HI9.out⟩
        case round =>
          obtain ⟨m, hm, rfl, HJ⟩ := hrel
          by_cases hmt : m < N
          · have hmti : (m : Int) < (N : Int) := by omega
            have HJB : Hid (Below w1.heap.size w1 wr) := HJ.out.elim fun _ h => h.2.2.2
            have hcell : wr.cell? ⟨p, o + k, none⟩ = some (.slice Ap D[k].length cp) := (HJB.out.cell (p := ⟨p, _, none⟩) HV.out.2.2.2).trans HV.out.1
            have hpb : p < wr.heap.size := Nat.lt_of_lt_of_le HV.out.2.2.2 HJB.out.size
            have HPL : Hid (P.length + m ≤ L.length) := by have := part_len (m := m) (N := N) HL.out hlt (by omega) HEN.out; rw [HP.out] at this; show _ ≤ _; simpa using this
            obtain ⟨vs, hown, hrs, hap, hbw⟩ := HJ.out
            have HO := Lib.hid (And.intro hown (And.intro hrs (And.intro hap (And.intro hbw HFa.out.1))))
            have HE0 := Lib.hid (own_empty wr 78 3)
            have HRd := Lib.hid ((HV.out.2.2.1.below hbw hbw.size).below (al (Below.refl wr.heap.size wr) (.cells #[] 78)) (by simp <;> omega : _ ≤ wr.heap.size + 1)).reads
            clear hown hrs hap hbw HJ
            go_wp2_with (at_builtin; refine wpList_append_any _ rfl (.tmp 43) (.tmp 47) 34 rfl wr.heap.size 78 i1 (.agg #[.int .i64 0, .int .i64 0, .string ⟨#[]⟩]) 3 32 Tryz.underlying34 hj hy0 hy1 hy2 rfl (by decide) _ 0 [] rfl HE0.out (wr.heap.size + 1) Ap D[k].length cp (vcells D[k]) rfl HRd.out ?c1 ?c2 ?c3 ?c4 ?_)
            case c1 => exact vcells_one _
            case c2 => have := HO.out.2.2.2.2; unfold maxLen; omega
            case c3 => have := HO.out.2.2.2.2; omega
            case c4 => simp <;> omega
            intro v1 w2 hown1 hgr1 _
            have hvo : OwnR w2 wr.heap.size v1 D[k] := hown1
            have hvb : Below wr.heap.size wr w2 := (al (Below.refl _ _) _).grown hgr1 (by simp <;> omega) (own_base HE0.out)
            clear hown1 hgr1 HE0 HRd
            obtain ⟨a1, c9, rfl⟩ := own_slice hvo
            have hsz := hvb.size
            have q1 := Blk.new w2 34 #[.slice a1 D[k].length c9]
            have q2 := sread_one q1 (B := w2.heap.size + 1) (by omega)
            have hul := HO.out.1.lt
            have H1 := Lib.hid (And.intro ((own_below HO.out.1 hvb).alloc (.cells #[.slice a1 D[k].length c9] 34)) (And.intro q2 (And.intro hvo (And.intro hvb hul))))
            clear hvo hvb q1 q2 hul
            go_wp2_with (at_builtin; refine wpList_append_any _ rfl (.tmp 42) (.tmp 49) 23 rfl w1.heap.size 34 i0 (.slice none 0 0) 1 24 Tryz.underlying23 hi hz0 hz1 hz2 rfl (by decide) _ _ _ rfl H1.out.1 (w2.heap.size + 1) _ 1 1 [.slice a1 D[k].length c9] rfl H1.out.2.1 ?c1 ?c2 ?c3 ?c4 ?_)
            case c1 => intro u hu; simp only [List.mem_cons, List.not_mem_nil, or_false] at hu; subst hu; rfl
            case c2 => have := HPL.out; have := HR.out.2.2.2.2.1; unfold maxLen; omega
            case c3 => have := HPL.out; have := HR.out.2.2.2.2.1; omega
            case c4 => have := HO.out.2.2.2.1.size; simp <;> omega
            intro v2 w3 hown2 hgr2 hu2
            have HN : Hid (∃ vs, w3.ownsRow w1.heap.size 34 1 v2 (P.length + m + 1) vs ∧ OwnRs w3 w1.heap.size vs (P ++ List.replicate (m + 1) D[k]) ∧ Apart v2 vs ∧ Below w1.heap.size w1 w3) := by
              obtain ⟨x1, x2, x3, x4, x5⟩ := H1.out
              obtain ⟨y1, y2, y3, y4, -⟩ := HO.out
              have z1 := (OwnRs.snoc (y2.below x4) (own_weaker x3 y4.size)).below (al (Below.refl _ _) (.cells #[.slice a1 D[k].length c9] 34))
              have z2 : Apart u8 (vs ++ [.slice a1 D[k].length c9]) := fun x hx => by
                rcases List.mem_append.1 hx with h | h
                · exact y3 x h
                · simp only [List.mem_cons, List.not_mem_nil, or_false] at h
                  subst h
                  cases hb : Value.ownBlock (.slice a1 D[k].length c9) with
                  | none => exact .inl rfl
                  | some g =>
                    refine .inr fun e => ?_
                    have := (x3.lt g hb).1
                    have := (x5 g e.symm).2
                    omega
              rw [List.replicate_succ', ← List.append_assoc]
              refine ⟨_, hown2, z1.kept z2 hgr2, Apart.app z1 z2 (n := w2.heap.size + 1) (by simp) hu2, ((thn y4 x4).alloc (by have := y4.size; omega) _).grown hgr2 (by have := y4.size; simp <;> omega) (own_base H1.out.1)⟩
            clear hown2 hgr2 hu2
            go_wp2_with fail
            go_roundw
            case rel => exact ⟨m + 1, by omega, by go_num, HN⟩
            case measure => simp [intOf]; omega
          · have hmn : m = N := by omega
            have hmti : (N : Int) ≤ (m : Int) := by omega
            have HEn : Hid ((D.take (k + 1)).flatMap F = P ++ List.replicate m D[k]) := by
              show _ = _
              rw [flat_succ hlt, HEN.out, hmn, HP.out]
            have HJ2 : Hid (∃ vs, wr.ownsRow w1.heap.size 34 1 u8 ((D.take (k + 1)).flatMap F).length vs ∧ OwnRs wr w1.heap.size vs ((D.take (k + 1)).flatMap F) ∧ Apart u8 vs ∧ Below w1.heap.size w1 wr) := by
              rw [HEn.out, List.length_append, List.length_replicate]
              exact HJ.out
            clear HJ HEn hmn
            go_wp2_with fail
            go_roundw
            case rel => exact ⟨k + 1, by omega, by go_num, HJ2⟩
            case measure => simp [intOf]; omega
      · have hmin : min ((L.count D[k] : Nat) : Int) ((L2.count D[k] : Nat) : Int) = ((min (L.count D[k]) (L2.count D[k]) : Nat) : Int) := by omega
        rw [hmin]
        clear hmin
        generalize hN : min (L.count D[k]) (L2.count D[k]) = N at *
        generalize hP : (D.take k).flatMap F = P at *
        have HP : Hid ((D.take k).flatMap F = P) := hP
        clear hP
        have HEN : Hid (F D[k] = List.replicate N D[k]) := by
          show _ = _
          rw [HE.out, ← hN]
          congr 1
        have hN6 : N ≤ 1000000 := by omega
        clear hN HE HI d1
        go_wp2_with fail
        go_loopw [8, 11] (fun v i wq => ∃ m : Nat, m ≤ N ∧ i = .int .i64 m ∧ Hid (∃ vs, wq.ownsRow w1.heap.size 34 1 v (P.length + m) vs ∧ OwnRs wq w1.heap.size vs (P ++ List.replicate m D[k]) ∧ Apart v vs ∧ Below w1.heap.size w1 wq)) (fun _ i _ => N - (intOf i).toNat)
        case atStart => exact ⟨0, Nat.zero_le _, rfl, by simp only [List.replicate_zero, List.append_nil, Nat.add_zero]; exact HI9.out⟩
        case round =>
          obtain ⟨m, hm, rfl, HJ⟩ := hrel
          by_cases hmt : m < N
          · have hmti : (m : Int) < (N : Int) := by omega
            have HJB : Hid (Below w1.heap.size w1 wr) := HJ.out.elim fun _ h => h.2.2.2
            have hcell : wr.cell? ⟨p, o + k, none⟩ = some (.slice Ap D[k].length cp) := (HJB.out.cell (p := ⟨p, _, none⟩) HV.out.2.2.2).trans HV.out.1
            have hpb : p < wr.heap.size := Nat.lt_of_lt_of_le HV.out.2.2.2 HJB.out.size
            have HPL : Hid (P.length + m ≤ L.length) := by have := part_len (m := m) (N := N) HL.out hlt (by omega) HEN.out; rw [HP.out] at this; show _ ≤ _; simpa using this
            obtain ⟨vs, hown, hrs, hap, hbw⟩ := HJ.out
            have HO := Lib.hid (And.intro hown (And.intro hrs (And.intro hap (And.intro hbw HFa.out.1))))
            have HE0 := Lib.hid (own_empty wr 78 3)
            have HRd := Lib.hid ((HV.out.2.2.1.below hbw hbw.size).below (al (Below.refl wr.heap.size wr) (.cells #[] 78)) (by simp <;> omega : _ ≤ wr.heap.size + 1)).reads
            clear hown hrs hap hbw HJ
            go_wp2_with (at_builtin; refine wpList_append_any _ rfl (.tmp 43) (.tmp 47) 34 rfl wr.heap.size 78 i1 (.agg #[.int .i64 0, .int .i64 0, .string ⟨#[]⟩]) 3 32 Tryz.underlying34 hj hy0 hy1 hy2 rfl (by decide) _ 0 [] rfl HE0.out (wr.heap.size + 1) Ap D[k].length cp (vcells D[k]) rfl HRd.out ?c1 ?c2 ?c3 ?c4 ?_)
            case c1 => exact vcells_one _
            case c2 => have := HO.out.2.2.2.2; unfold maxLen; omega
            case c3 => have := HO.out.2.2.2.2; omega
            case c4 => simp <;> omega
            intro v1 w2 hown1 hgr1 _
            have hvo : OwnR w2 wr.heap.size v1 D[k] := hown1
            have hvb : Below wr.heap.size wr w2 := (al (Below.refl _ _) _).grown hgr1 (by simp <;> omega) (own_base HE0.out)
            clear hown1 hgr1 HE0 HRd
            obtain ⟨a1, c9, rfl⟩ := own_slice hvo
            have hsz := hvb.size
            have q1 := Blk.new w2 34 #[.slice a1 D[k].length c9]
            have q2 := sread_one q1 (B := w2.heap.size + 1) (by omega)
            have hul := HO.out.1.lt
            have H1 := Lib.hid (And.intro ((own_below HO.out.1 hvb).alloc (.cells #[.slice a1 D[k].length c9] 34)) (And.intro q2 (And.intro hvo (And.intro hvb hul))))
            clear hvo hvb q1 q2 hul
            go_wp2_with (at_builtin; refine wpList_append_any _ rfl (.tmp 42) (.tmp 49) 23 rfl w1.heap.size 34 i0 (.slice none 0 0) 1 24 Tryz.underlying23 hi hz0 hz1 hz2 rfl (by decide) _ _ _ rfl H1.out.1 (w2.heap.size + 1) _ 1 1 [.slice a1 D[k].length c9] rfl H1.out.2.1 ?c1 ?c2 ?c3 ?c4 ?_)
            case c1 => intro u hu; simp only [List.mem_cons, List.not_mem_nil, or_false] at hu; subst hu; rfl
            case c2 => have := HPL.out; have := HR.out.2.2.2.2.1; unfold maxLen; omega
            case c3 => have := HPL.out; have := HR.out.2.2.2.2.1; omega
            case c4 => have := HO.out.2.2.2.1.size; simp <;> omega
            intro v2 w3 hown2 hgr2 hu2
            have HN : Hid (∃ vs, w3.ownsRow w1.heap.size 34 1 v2 (P.length + m + 1) vs ∧ OwnRs w3 w1.heap.size vs (P ++ List.replicate (m + 1) D[k]) ∧ Apart v2 vs ∧ Below w1.heap.size w1 w3) := by
              obtain ⟨x1, x2, x3, x4, x5⟩ := H1.out
              obtain ⟨y1, y2, y3, y4, -⟩ := HO.out
              have z1 := (OwnRs.snoc (y2.below x4) (own_weaker x3 y4.size)).below (al (Below.refl _ _) (.cells #[.slice a1 D[k].length c9] 34))
              have z2 : Apart u8 (vs ++ [.slice a1 D[k].length c9]) := fun x hx => by
                rcases List.mem_append.1 hx with h | h
                · exact y3 x h
                · simp only [List.mem_cons, List.not_mem_nil, or_false] at h
                  subst h
                  cases hb : Value.ownBlock (.slice a1 D[k].length c9) with
                  | none => exact .inl rfl
                  | some g =>
                    refine .inr fun e => ?_
                    have := (x3.lt g hb).1
                    have := (x5 g e.symm).2
                    omega
              rw [List.replicate_succ', ← List.append_assoc]
              refine ⟨_, hown2, z1.kept z2 hgr2, Apart.app z1 z2 (n := w2.heap.size + 1) (by simp) hu2, ((thn y4 x4).alloc (by have := y4.size; omega) _).grown hgr2 (by have := y4.size; simp <;> omega) (own_base H1.out.1)⟩
            clear hown2 hgr2 hu2
            go_wp2_with fail
            go_roundw
            case rel => exact ⟨m + 1, by omega, by go_num, HN⟩
            case measure => simp [intOf]; omega
          · have hmn : m = N := by omega
            have hmti : (N : Int) ≤ (m : Int) := by omega
            have HEn : Hid ((D.take (k + 1)).flatMap F = P ++ List.replicate m D[k]) := by
              show _ = _
              rw [flat_succ hlt, HEN.out, hmn, HP.out]
            have HJ2 : Hid (∃ vs, wr.ownsRow w1.heap.size 34 1 u8 ((D.take (k + 1)).flatMap F).length vs ∧ OwnRs wr w1.heap.size vs ((D.take (k + 1)).flatMap F) ∧ Apart u8 vs ∧ Below w1.heap.size w1 wr) := by
              rw [HEn.out, List.length_append, List.length_replicate]
              exact HJ.out
            clear HJ HEn hmn
            go_wp2_with fail
            go_roundw
            case rel => exact ⟨k + 1, by omega, by go_num, HJ2⟩
            case measure => simp [intOf]; omega
    · have HE := Lib.hid (show D.take k = D by rw [List.take_of_length_le (by omega)])
      obtain ⟨vs, s1, s2, s3, s4⟩ := HI.out
      rw [HE.out] at s1 s2
      obtain ⟨A', c', rfl, hl⟩ := OutR.lreads ⟨vs, s1, s2⟩
      have HZ := Lib.hid (And.intro hl (thn W1.out.2 s4))
      clear s1 s2 s3 hl HI s4
      go_wp2_with fail
      go_ret
      exact ⟨A', c', rfl, HZ.out⟩

set_option maxHeartbeats 4000000 in
set_option maxRecDepth 100000 in
theorem RMinus_any (A A' : Option Addr) (c c' : Nat) (L L2 : List (List V)) (all : Bool) (w : World) (hr : LReads w w.heap.size A L) (hr2 : LReads w w.heap.size A' L2) (hf : ∀ r ∈ L, r.length ≤ 1000000 ∧ VFit r) (hf2 : ∀ r ∈ L2, r.length ≤ 1000000 ∧ VFit r) (hc : L.length ≤ c) (hn : L.length ≤ 1000000) (hn2 : L2.length ≤ 1000000) :
    Calls Tryz.prog 38 #[.slice A L.length c, .slice A' L2.length c', .bool all] w fun e w' => ∃ Ao co, e = .returned (.slice Ao (minusR all L L2).length co) ∧ LReads w' w'.heap.size Ao (minusR all L L2) ∧ Below w.heap.size w w' := by
  have HC := Lib.hid (RDistinct_any A c L w hr hf hc hn)
  have HM : Hid (∀ x ∈ ddR (canon L), x.length ≤ 1000000 ∧ VFit x) := fun x h => hf x (srtC_mem.1 (ddR_mem h))
  have HL : Hid (((ddR (canon L)).flatMap fun x => List.replicate (nMinus all (L.count x) (L2.count x)) x).length ≤ L.length) := by
    have := minusR_len all L L2
    rwa [minus_eq] at this
  rw [minus_eq]
  have HR := Lib.hid (And.intro hr (And.intro hr2 (And.intro (fun r h => And.intro (by have := (hf r h).1; unfold maxLen; omega) (hf r h).2 : ∀ r ∈ L, r.length ≤ maxLen ∧ VFit r) (And.intro (fun r h => And.intro (by have := (hf2 r h).1; unfold maxLen; omega) (hf2 r h).2 : ∀ r ∈ L2, r.length ≤ maxLen ∧ VFit r) (And.intro hn hn2)))))
  obtain ⟨i0, hi, hz0, hz1, hz2⟩ := info_parts infoR
  obtain ⟨i1, hj, hy0, hy1, hy2⟩ := info_parts infoV
  have hDl : (ddR (canon L)).length ≤ 1000000 := Nat.le_trans (ddR_len _) (by rw [srtC_len]; exact hn)
  clear hr hr2 hf hf2 hc hn hn2
  generalize ddR (canon L) = D at *
  generalize hF : (fun x => List.replicate (nMinus all (L.count x) (L2.count x)) x) = F at *
  have HF : Hid (∀ x, F x = List.replicate (nMinus all (L.count x) (L2.count x)) x) := fun x => by rw [← hF]
  clear hF
  go_enter Tryz.func38, Tryz.ntmps38
  go_wp2_with fail
  refine HC.out.mono ?_
  rintro e w1 ⟨A1, c1, rfl, hl, hb⟩
  have W1 := Lib.hid (And.intro hl hb)
  clear hl hb HC
  go_wp2_with fail
  go_loopw [8, 9] (fun v i wr => ∃ k : Nat, k ≤ D.length ∧ i = .int .i64 k ∧ Hid (∃ vs, wr.ownsRow w1.heap.size 34 1 v ((D.take k).flatMap F).length vs ∧ OwnRs wr w1.heap.size vs ((D.take k).flatMap F) ∧ Apart v vs ∧ Below w1.heap.size w1 wr)) (fun _ i _ => D.length - (intOf i).toNat)
  case atStart => exact ⟨0, Nat.zero_le _, rfl, [], ⟨rfl, .inl ⟨rfl, rfl⟩⟩, OwnRs.nil _ _, fun x hx => (by cases hx), Below.refl _ _⟩
  case round =>
    obtain ⟨k, hk, rfl, HI⟩ := hrel
    by_cases hlt : k < D.length
    · have HB : Hid (Below w1.heap.size w1 wr) := HI.out.elim fun _ h => h.2.2.2
      obtain ⟨p, o, Ap, cp, rfl, hblk, hc, hp, hv⟩ := W1.out.1.at_ hlt
      have X1 : ∀ x : Aft wr, x.w.cell? ⟨p, o + k, none⟩ = some (.slice Ap D[k].length cp) := fun x => (x.h.cell (p := ⟨p, _, none⟩) (Nat.lt_of_lt_of_le hblk HB.out.size)).trans ((HB.out.cell (p := ⟨p, _, none⟩) hblk).trans hc)
      have hlti : (k : Int) < (D.length : Int) := by omega
      have hk0i : (0 : Int) ≤ (k : Int) := by omega
      have HFa := Lib.hid (HM.out D[k] (List.getElem_mem hlt))
      have HV := Lib.hid (And.intro hc (And.intro hp (And.intro hv hblk)))
      have HT : ∀ x : Aft wr, Calls Tryz.prog 33 #[.slice A L.length c, .slice Ap D[k].length cp] x.w fun e w' => e = .returned (.int .i64 (L.count D[k] : Nat)) ∧ Below x.w.heap.size x.w w' := fun x => RTimes_any A Ap c cp L D[k] x.w (HR.out.1.below (thn (thn W1.out.2 HB.out) x.h) ((thn (thn W1.out.2 HB.out) x.h).size)) ((HV.out.2.2.1.below HB.out HB.out.size).below x.h x.h.size) HR.out.2.2.1 HFa.out.2 (by have := HFa.out.1; unfold maxLen; omega) HR.out.2.2.2.2.1
      have HT2 : ∀ x : Aft wr, Calls Tryz.prog 33 #[.slice A' L2.length c', .slice Ap D[k].length cp] x.w fun e w' => e = .returned (.int .i64 (L2.count D[k] : Nat)) ∧ Below x.w.heap.size x.w w' := fun x => RTimes_any A' Ap c' cp L2 D[k] x.w (HR.out.2.1.below (thn (thn W1.out.2 HB.out) x.h) ((thn (thn W1.out.2 HB.out) x.h).size)) ((HV.out.2.2.1.below HB.out HB.out.size).below x.h x.h.size) HR.out.2.2.2.1 HFa.out.2 (by have := HFa.out.1; unfold maxLen; omega) HR.out.2.2.2.2.2
      have HX := Lib.hid (And.intro HT HT2)
      have HE := Lib.hid (HF.out D[k])
      have HBL := Lib.hid (And.intro (List.count_le_length (a := D[k]) (l := L)) (And.intro (List.count_le_length (a := D[k]) (l := L2)) HR.out.2.2.2.2))
      have hcl : L.count D[k] ≤ 1000000 := Nat.le_trans HBL.out.1 HBL.out.2.2.1
      have hcl2 : L2.count D[k] ≤ 1000000 := Nat.le_trans HBL.out.2.1 HBL.out.2.2.2
      clear hp hv hc HT HT2 HBL
      go_wp2_with fail
      refine region_aft (by kernel_rfl) (by kernel_rfl) ?_
      repeat (go_big_quiet_step ((first | with_reducible exact aft_call (HX.out.1 _) | with_reducible exact aft_call (HX.out.2 _))))
      refine wpQuiet_nil ?_
      intro x9
      have d1 := X1 x9
      have HI9 : Hid (∃ vs, x9.w.ownsRow w1.heap.size 34 1 u8 ((D.take k).flatMap F).length vs ∧ OwnRs x9.w w1.heap.size vs ((D.take k).flatMap F) ∧ Apart u8 vs ∧ Below w1.heap.size w1 x9.w) := by
        obtain ⟨vs, s1, s2, s3, s4⟩ := HI.out
        exact ⟨vs, own_below s1 x9.h, s2.below x9.h, s3, thn s4 x9.h⟩
      clear X1 HX
      generalize hZ : ((L.count D[k] : Nat) : Int) - ((L2.count D[k] : Nat) : Int) = z at *
      cases all
      · go_wp2_with fail
        refine (RTimes_any A' Ap c' cp L2 D[k] x9.w (HR.out.2.1.below (thn (thn W1.out.2 HB.out) x9.h) ((thn (thn W1.out.2 HB.out) x9.h).size)) ((HV.out.2.2.1.below HB.out HB.out.size).below x9.h x9.h.size) HR.out.2.2.2.1 HFa.out.2 (by have := HFa.out.1; unfold maxLen; omega) HR.out.2.2.2.2.2).mono ?_
        rintro e w5 ⟨rfl, hb5⟩
        have HI9' : Hid (∃ vs, w5.ownsRow w1.heap.size 34 1 u8 ((D.take k).flatMap F).length vs ∧ OwnRs w5 w1.heap.size vs ((D.take k).flatMap F) ∧ Apart u8 vs ∧ Below w1.heap.size w1 w5) := by
          obtain ⟨vs, s1, s2, s3, s4⟩ := HI9.out
          exact ⟨vs, own_below s1 hb5, s2.below hb5, s3, thn s4 hb5⟩
        clear HI9 hb5
        have HI9 := HI9'
        clear HI9'
        by_cases hq : L2.count D[k] = 0
        · have hqb : ((L2.count D[k] : Nat) : Int) = 0 := by omega
          rw [hqb]
          clear hqb
          obtain ⟨N, hN⟩ : ∃ N : Nat, N = 1 := ⟨_, rfl⟩
          generalize hP : (D.take k).flatMap F = P at *
          have HP : Hid ((D.take k).flatMap F = P) := hP
          clear hP
          have HEN : Hid (F D[k] = List.replicate N D[k]) := by
            show _ = _
            rw [HE.out, hN]
            simp [nMinus, hq]
          clear HE HI d1 hZ
          go_wp2_with fail
          go_loopw [8, 11] (fun v i wq => ∃ m : Nat, m ≤ N ∧ i = .int .i64 m ∧ Hid (∃ vs, wq.ownsRow w1.heap.size 34 1 v (P.length + m) vs ∧ OwnRs wq w1.heap.size vs (P ++ List.replicate m D[k]) ∧ Apart v vs ∧ Below w1.heap.size w1 wq)) (fun _ i _ => N - (intOf i).toNat)
          case atStart => exact ⟨0, Nat.zero_le _, rfl, by simp only [List.replicate_zero, List.append_nil, Nat.add_zero]; exact HI9.out⟩
          case round =>
            obtain ⟨m, hm, rfl, HJ⟩ := hrel
            by_cases hmt : m < N
            · have hmti : (m : Int) < 1 := by omega
              have HJB : Hid (Below w1.heap.size w1 wr) := HJ.out.elim fun _ h => h.2.2.2
              have hcell : wr.cell? ⟨p, o + k, none⟩ = some (.slice Ap D[k].length cp) := (HJB.out.cell (p := ⟨p, _, none⟩) HV.out.2.2.2).trans HV.out.1
              have hpb : p < wr.heap.size := Nat.lt_of_lt_of_le HV.out.2.2.2 HJB.out.size
              have HPL : Hid (P.length + m ≤ L.length) := by have := part_len (m := m) (N := N) HL.out hlt (by omega) HEN.out; rw [HP.out] at this; show _ ≤ _; simpa using this
              obtain ⟨vs, hown, hrs, hap, hbw⟩ := HJ.out
              have HO := Lib.hid (And.intro hown (And.intro hrs (And.intro hap (And.intro hbw HFa.out.1))))
              have HE0 := Lib.hid (own_empty wr 78 3)
              have HRd := Lib.hid ((HV.out.2.2.1.below hbw hbw.size).below (al (Below.refl wr.heap.size wr) (.cells #[] 78)) (by simp <;> omega : _ ≤ wr.heap.size + 1)).reads
              clear hown hrs hap hbw HJ
              go_wp2_with (at_builtin; refine wpList_append_any _ rfl (.tmp 48) (.tmp 52) 34 rfl wr.heap.size 78 i1 (.agg #[.int .i64 0, .int .i64 0, .string ⟨#[]⟩]) 3 32 Tryz.underlying34 hj hy0 hy1 hy2 rfl (by decide) _ 0 [] rfl HE0.out (wr.heap.size + 1) Ap D[k].length cp (vcells D[k]) rfl HRd.out ?c1 ?c2 ?c3 ?c4 ?_)
              case c1 => exact vcells_one _
              case c2 => have := HO.out.2.2.2.2; unfold maxLen; omega
              case c3 => have := HO.out.2.2.2.2; omega
              case c4 => simp <;> omega
              intro v1 w2 hown1 hgr1 _
              have hvo : OwnR w2 wr.heap.size v1 D[k] := hown1
              have hvb : Below wr.heap.size wr w2 := (al (Below.refl _ _) _).grown hgr1 (by simp <;> omega) (own_base HE0.out)
              clear hown1 hgr1 HE0 HRd
              obtain ⟨a1, c9, rfl⟩ := own_slice hvo
              have hsz := hvb.size
              have q1 := Blk.new w2 34 #[.slice a1 D[k].length c9]
              have q2 := sread_one q1 (B := w2.heap.size + 1) (by omega)
              have hul := HO.out.1.lt
              have H1 := Lib.hid (And.intro ((own_below HO.out.1 hvb).alloc (.cells #[.slice a1 D[k].length c9] 34)) (And.intro q2 (And.intro hvo (And.intro hvb hul))))
              clear hvo hvb q1 q2 hul
              go_wp2_with (at_builtin; refine wpList_append_any _ rfl (.tmp 47) (.tmp 54) 23 rfl w1.heap.size 34 i0 (.slice none 0 0) 1 24 Tryz.underlying23 hi hz0 hz1 hz2 rfl (by decide) _ _ _ rfl H1.out.1 (w2.heap.size + 1) _ 1 1 [.slice a1 D[k].length c9] rfl H1.out.2.1 ?c1 ?c2 ?c3 ?c4 ?_)
              case c1 => intro u hu; simp only [List.mem_cons, List.not_mem_nil, or_false] at hu; subst hu; rfl
              case c2 => have := HPL.out; have := HR.out.2.2.2.2.1; unfold maxLen; omega
              case c3 => have := HPL.out; have := HR.out.2.2.2.2.1; omega
              case c4 => have := HO.out.2.2.2.1.size; simp <;> omega
              intro v2 w3 hown2 hgr2 hu2
              have HN : Hid (∃ vs, w3.ownsRow w1.heap.size 34 1 v2 (P.length + m + 1) vs ∧ OwnRs w3 w1.heap.size vs (P ++ List.replicate (m + 1) D[k]) ∧ Apart v2 vs ∧ Below w1.heap.size w1 w3) := by
                obtain ⟨x1, x2, x3, x4, x5⟩ := H1.out
                obtain ⟨y1, y2, y3, y4, -⟩ := HO.out
                have z1 := (OwnRs.snoc (y2.below x4) (own_weaker x3 y4.size)).below (al (Below.refl _ _) (.cells #[.slice a1 D[k].length c9] 34))
                have z2 : Apart u8 (vs ++ [.slice a1 D[k].length c9]) := fun x hx => by
                  rcases List.mem_append.1 hx with h | h
                  · exact y3 x h
                  · simp only [List.mem_cons, List.not_mem_nil, or_false] at h
                    subst h
                    cases hb : Value.ownBlock (.slice a1 D[k].length c9) with
                    | none => exact .inl rfl
                    | some g =>
                      refine .inr fun e => ?_
                      have := (x3.lt g hb).1
                      have := (x5 g e.symm).2
                      omega
                rw [List.replicate_succ', ← List.append_assoc]
                refine ⟨_, hown2, z1.kept z2 hgr2, Apart.app z1 z2 (n := w2.heap.size + 1) (by simp) hu2, ((thn y4 x4).alloc (by have := y4.size; omega) _).grown hgr2 (by have := y4.size; simp <;> omega) (own_base H1.out.1)⟩
              clear hown2 hgr2 hu2
              go_wp2_with fail
              go_roundw
              case rel => exact ⟨m + 1, by omega, by go_num, HN⟩
              case measure => simp [intOf]; omega
            · have hmn : m = N := by omega
              have hmti : 1 ≤ (m : Int) := by omega
              have HEn : Hid ((D.take (k + 1)).flatMap F = P ++ List.replicate m D[k]) := by
                show _ = _
                rw [flat_succ hlt, HEN.out, hmn, HP.out]
              have HJ2 : Hid (∃ vs, wr.ownsRow w1.heap.size 34 1 u8 ((D.take (k + 1)).flatMap F).length vs ∧ OwnRs wr w1.heap.size vs ((D.take (k + 1)).flatMap F) ∧ Apart u8 vs ∧ Below w1.heap.size w1 wr) := by
                rw [HEn.out, List.length_append, List.length_replicate]
                exact HJ.out
              clear HJ HEn hmn
              go_wp2_with fail
              go_roundw
              case rel => exact ⟨k + 1, by omega, by go_num, HJ2⟩
              case measure => simp [intOf]; omega
        · have hqb : (((L2.count D[k] : Nat) : Int) == 0) = false := beq_eq_false_iff_ne.2 (by omega)
          obtain ⟨N, hN⟩ : ∃ N : Nat, N = 0 := ⟨_, rfl⟩
          generalize hP : (D.take k).flatMap F = P at *
          have HP : Hid ((D.take k).flatMap F = P) := hP
          clear hP
          have HEN : Hid (F D[k] = List.replicate N D[k]) := by
            show _ = _
            rw [HE.out, hN]
            simp [nMinus, hq]
          clear HE HI d1 hZ
          go_wp2_with fail
          go_loopw [8, 11] (fun v i wq => ∃ m : Nat, m ≤ N ∧ i = .int .i64 m ∧ Hid (∃ vs, wq.ownsRow w1.heap.size 34 1 v (P.length + m) vs ∧ OwnRs wq w1.heap.size vs (P ++ List.replicate m D[k]) ∧ Apart v vs ∧ Below w1.heap.size w1 wq)) (fun _ i _ => N - (intOf i).toNat)
          case atStart => exact ⟨0, Nat.zero_le _, rfl, by simp only [List.replicate_zero, List.append_nil, Nat.add_zero]; exact HI9.out⟩
          case round =>
            obtain ⟨m, hm, rfl, HJ⟩ := hrel
            by_cases hmt : m < N
            · exfalso
              omega
            · have hmn : m = N := by omega
              have hmti : 0 ≤ (m : Int) := by omega
              have HEn : Hid ((D.take (k + 1)).flatMap F = P ++ List.replicate m D[k]) := by
                show _ = _
                rw [flat_succ hlt, HEN.out, hmn, HP.out]
              have HJ2 : Hid (∃ vs, wr.ownsRow w1.heap.size 34 1 u8 ((D.take (k + 1)).flatMap F).length vs ∧ OwnRs wr w1.heap.size vs ((D.take (k + 1)).flatMap F) ∧ Apart u8 vs ∧ Below w1.heap.size w1 wr) := by
                rw [HEn.out, List.length_append, List.length_replicate]
                exact HJ.out
              clear HJ HEn hmn
              go_wp2_with fail
              go_roundw
              case rel => exact ⟨k + 1, by omega, by go_num, HJ2⟩
              case measure => simp [intOf]; omega
      · generalize hN : L.count D[k] - L2.count D[k] = N at *
        generalize hP : (D.take k).flatMap F = P at *
        have HP : Hid ((D.take k).flatMap F = P) := hP
        clear hP
        have HEN : Hid (F D[k] = List.replicate N D[k]) := by
          show _ = _
          rw [HE.out, ← hN]
          congr 1
        have HZ : Hid (N = z.toNat) := by show _ = _; omega
        have hz6 : z ≤ 1000000 := by omega
        have hz7 : -1000000 ≤ z := by omega
        have hN6 : N ≤ 1000000 := by omega
        clear hZ hN HE HI d1
        go_wp2_with fail
        go_loopw [8, 11] (fun v i wq => ∃ m : Nat, m ≤ N ∧ i = .int .i64 m ∧ Hid (∃ vs, wq.ownsRow w1.heap.size 34 1 v (P.length + m) vs ∧ OwnRs wq w1.heap.size vs (P ++ List.replicate m D[k]) ∧ Apart v vs ∧ Below w1.heap.size w1 wq)) (fun _ i _ => N - (intOf i).toNat)
        case atStart => exact ⟨0, Nat.zero_le _, rfl, by simp only [List.replicate_zero, List.append_nil, Nat.add_zero]; exact HI9.out⟩
        case round =>
          obtain ⟨m, hm, rfl, HJ⟩ := hrel
          by_cases hmt : m < N
          · have hmti : (m : Int) < z := by have := HZ.out; omega
            have HJB : Hid (Below w1.heap.size w1 wr) := HJ.out.elim fun _ h => h.2.2.2
            have hcell : wr.cell? ⟨p, o + k, none⟩ = some (.slice Ap D[k].length cp) := (HJB.out.cell (p := ⟨p, _, none⟩) HV.out.2.2.2).trans HV.out.1
            have hpb : p < wr.heap.size := Nat.lt_of_lt_of_le HV.out.2.2.2 HJB.out.size
            have HPL : Hid (P.length + m ≤ L.length) := by have := part_len (m := m) (N := N) HL.out hlt (by omega) HEN.out; rw [HP.out] at this; show _ ≤ _; simpa using this
            obtain ⟨vs, hown, hrs, hap, hbw⟩ := HJ.out
            have HO := Lib.hid (And.intro hown (And.intro hrs (And.intro hap (And.intro hbw HFa.out.1))))
            have HE0 := Lib.hid (own_empty wr 78 3)
            have HRd := Lib.hid ((HV.out.2.2.1.below hbw hbw.size).below (al (Below.refl wr.heap.size wr) (.cells #[] 78)) (by simp <;> omega : _ ≤ wr.heap.size + 1)).reads
            clear hown hrs hap hbw HJ
            go_wp2_with (at_builtin; refine wpList_append_any _ rfl (.tmp 48) (.tmp 52) 34 rfl wr.heap.size 78 i1 (.agg #[.int .i64 0, .int .i64 0, .string ⟨#[]⟩]) 3 32 Tryz.underlying34 hj hy0 hy1 hy2 rfl (by decide) _ 0 [] rfl HE0.out (wr.heap.size + 1) Ap D[k].length cp (vcells D[k]) rfl HRd.out ?c1 ?c2 ?c3 ?c4 ?_)
            case c1 => exact vcells_one _
            case c2 => have := HO.out.2.2.2.2; unfold maxLen; omega
            case c3 => have := HO.out.2.2.2.2; omega
            case c4 => simp <;> omega
            intro v1 w2 hown1 hgr1 _
            have hvo : OwnR w2 wr.heap.size v1 D[k] := hown1
            have hvb : Below wr.heap.size wr w2 := (al (Below.refl _ _) _).grown hgr1 (by simp <;> omega) (own_base HE0.out)
            clear hown1 hgr1 HE0 HRd
            obtain ⟨a1, c9, rfl⟩ := own_slice hvo
            have hsz := hvb.size
            have q1 := Blk.new w2 34 #[.slice a1 D[k].length c9]
            have q2 := sread_one q1 (B := w2.heap.size + 1) (by omega)
            have hul := HO.out.1.lt
            have H1 := Lib.hid (And.intro ((own_below HO.out.1 hvb).alloc (.cells #[.slice a1 D[k].length c9] 34)) (And.intro q2 (And.intro hvo (And.intro hvb hul))))
            clear hvo hvb q1 q2 hul
            go_wp2_with (at_builtin; refine wpList_append_any _ rfl (.tmp 47) (.tmp 54) 23 rfl w1.heap.size 34 i0 (.slice none 0 0) 1 24 Tryz.underlying23 hi hz0 hz1 hz2 rfl (by decide) _ _ _ rfl H1.out.1 (w2.heap.size + 1) _ 1 1 [.slice a1 D[k].length c9] rfl H1.out.2.1 ?c1 ?c2 ?c3 ?c4 ?_)
            case c1 => intro u hu; simp only [List.mem_cons, List.not_mem_nil, or_false] at hu; subst hu; rfl
            case c2 => have := HPL.out; have := HR.out.2.2.2.2.1; unfold maxLen; omega
            case c3 => have := HPL.out; have := HR.out.2.2.2.2.1; omega
            case c4 => have := HO.out.2.2.2.1.size; simp <;> omega
            intro v2 w3 hown2 hgr2 hu2
            have HN : Hid (∃ vs, w3.ownsRow w1.heap.size 34 1 v2 (P.length + m + 1) vs ∧ OwnRs w3 w1.heap.size vs (P ++ List.replicate (m + 1) D[k]) ∧ Apart v2 vs ∧ Below w1.heap.size w1 w3) := by
              obtain ⟨x1, x2, x3, x4, x5⟩ := H1.out
              obtain ⟨y1, y2, y3, y4, -⟩ := HO.out
              have z1 := (OwnRs.snoc (y2.below x4) (own_weaker x3 y4.size)).below (al (Below.refl _ _) (.cells #[.slice a1 D[k].length c9] 34))
              have z2 : Apart u8 (vs ++ [.slice a1 D[k].length c9]) := fun x hx => by
                rcases List.mem_append.1 hx with h | h
                · exact y3 x h
                · simp only [List.mem_cons, List.not_mem_nil, or_false] at h
                  subst h
                  cases hb : Value.ownBlock (.slice a1 D[k].length c9) with
                  | none => exact .inl rfl
                  | some g =>
                    refine .inr fun e => ?_
                    have := (x3.lt g hb).1
                    have := (x5 g e.symm).2
                    omega
              rw [List.replicate_succ', ← List.append_assoc]
              refine ⟨_, hown2, z1.kept z2 hgr2, Apart.app z1 z2 (n := w2.heap.size + 1) (by simp) hu2, ((thn y4 x4).alloc (by have := y4.size; omega) _).grown hgr2 (by have := y4.size; simp <;> omega) (own_base H1.out.1)⟩
            clear hown2 hgr2 hu2
            go_wp2_with fail
            go_roundw
            case rel => exact ⟨m + 1, by omega, by go_num, HN⟩
            case measure => simp [intOf]; omega
          · have hmn : m = N := by omega
            have hmti : z ≤ (m : Int) := by have := HZ.out; omega
            have HEn : Hid ((D.take (k + 1)).flatMap F = P ++ List.replicate m D[k]) := by
              show _ = _
              rw [flat_succ hlt, HEN.out, hmn, HP.out]
            have HJ2 : Hid (∃ vs, wr.ownsRow w1.heap.size 34 1 u8 ((D.take (k + 1)).flatMap F).length vs ∧ OwnRs wr w1.heap.size vs ((D.take (k + 1)).flatMap F) ∧ Apart u8 vs ∧ Below w1.heap.size w1 wr) := by
              rw [HEn.out, List.length_append, List.length_replicate]
              exact HJ.out
            clear HJ HEn hmn
            go_wp2_with fail
            go_roundw
            case rel => exact ⟨k + 1, by omega, by go_num, HJ2⟩
            case measure => simp [intOf]; omega
    · have HE := Lib.hid (show D.take k = D by rw [List.take_of_length_le (by omega)])
      obtain ⟨vs, s1, s2, s3, s4⟩ := HI.out
      rw [HE.out] at s1 s2
      obtain ⟨A', c', rfl, hl⟩ := OutR.lreads ⟨vs, s1, s2⟩
      have HZ := Lib.hid (And.intro hl (thn W1.out.2 s4))
      clear s1 s2 s3 hl HI s4
      go_wp2_with fail
      go_ret
      exact ⟨A', c', rfl, HZ.out⟩
end Go.Proofs.YtapnnheggjahlaaGreatDoor
