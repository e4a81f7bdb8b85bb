/-
  THE WALK of RowsApart.
-/
import Derived.Test.YtapnnheggjahlaaGreatDoorLRG
namespace Go.Proofs.YtapnnheggjahlaaGreatDoor
open Go.RowKit

theorem ireads_blk {w : World} {g B : Nat} {T : TypeId} {ps qs : List Int} (h : Blk w g T (icells (ps ++ qs)).toArray) (hg : g < B) : IReads w B (some ⟨g, 0, none⟩) ps := fun _ => by
  refine ⟨g, 0, rfl, hg, fun i p hi => ?_⟩
  rw [h.cell, Nat.zero_add]
  have hl : i < ps.length := by
    rcases Nat.lt_or_ge i ps.length with h' | h'
    · exact h'
    · rw [List.getElem?_eq_none h'] at hi; cases hi
  simp only [icells, List.getElem?_toArray, List.getElem?_map]
  rw [List.getElem?_append_left hl, hi]; rfl
/-- what holds of the groups of rows -/
structure GFacts (q : List Nat) (l : List (List V)) (G1 : List (List (List V))) (H : List (List V)) : Prop where
  len : G1.length = H.length
  pos : ∀ (i : Nat) (h : i < G1.length), 0 < G1[i].length
  same : ∀ (i : Nat) (h : i < G1.length) (h2 : i < H.length), ∀ r ∈ G1[i], atR q r = H[i]
  rise : ∀ (i : Nat) (h : i + 1 < H.length), cmpR H[i] H[i + 1] < 0
  all : canon G1.flatten = canon l
  few1 : G1.length ≤ l.length
  few : ∀ i, ((G1.take i).flatten).length ≤ l.length
  mem : ∀ i, ∀ r ∈ (G1.take i).flatten, r ∈ l
theorem hds_rise {s : List (List V)} (h : s.Pairwise fun a b => leC cmpR a b = true) : (hdsR s).Pairwise fun a b => cmpR a b < 0 := by
  induction hn : s.length using Nat.strongRecOn generalizing s with
  | _ n ih =>
    match s, hn with
    | [], _ => rw [hdsR_nil]; exact List.Pairwise.nil
    | x :: t, hn =>
      have hsub := (List.dropWhile_sublist (fun y => decide (y = x)) (l := t))
      have hx := (run_front h).2
      rw [hdsR_cons]
      refine List.pairwise_cons.2 ⟨fun y hy => ?_, ih _ (by rw [List.length_cons] at hn; have := hsub.length_le; omega) ((List.pairwise_cons.1 h).2.sublist hsub) rfl⟩
      have hm := hdsR_mem hy
      have h1 := leC_iff.1 ((List.pairwise_cons.1 h).1 y (hsub.subset hm))
      have h2 : cmpR x y ≠ 0 := fun e => hx (Eq.subst (motive := fun z => z ∈ t.dropWhile fun y => decide (y = x)) (cmpR_iff.1 e).symm hm)
      omega
theorem gfacts (q : List Nat) (l : List (List V)) : GFacts q l (groupsR q l) (headsR q l) where
  len := List.length_map ..
  pos := fun i h => by
    have hh : i < (headsR q l).length := by
      have h' := h
      unfold groupsR at h'
      rwa [List.length_map] at h'
    have hm : (headsR q l)[i] ∈ headsR q l := List.getElem_mem hh
    obtain ⟨r, hr, e⟩ := List.mem_map.1 (srtC_mem.1 (ddR_mem hm))
    have he : (groupsR q l)[i] = (canon l).filter fun r => decide (atR q r = (headsR q l)[i]) := List.getElem_map ..
    rw [he]
    exact List.length_pos_of_mem (List.mem_filter.2 ⟨hr, by simpa using e⟩)
  same := fun i h h2 r hr => by
    have he : (groupsR q l)[i] = (canon l).filter fun r => decide (atR q r = (headsR q l)[i]) := List.getElem_map ..
    rw [he] at hr
    simpa using (List.mem_filter.1 hr).2
  rise := fun i h => by
    have hr : (headsR q l).Pairwise fun a b => cmpR a b < 0 := by
      rw [headsR_eq]
      exact hds_rise (rise_at (sortK_rises q l))
    exact List.pairwise_iff_getElem.1 hr i (i + 1) (by omega) h (by omega)
  all := by
    rw [← groups_eq, runsOf_flat]
    exact canon_perm.2 (sortK_perm q l)
  few1 := by
    show ((headsR q l).map _).length ≤ _
    rw [List.length_map, headsR]
    exact Nat.le_trans (ddR_len _) (by rw [srtC_len, List.length_map, srtC_len]; exact Nat.le_refl _)
  few := fun i => by
    have h1 : ((groupsR q l).take i).flatten.length ≤ (groupsR q l).flatten.length := by
      conv => rhs; rw [← List.take_append_drop i (groupsR q l), List.flatten_append, List.length_append]
      omega
    have h2 : (groupsR q l).flatten.length = l.length := by
      rw [← groups_eq, runsOf_flat]; exact (sortK_perm q l).length_eq
    omega
  mem := fun i r hr => by
    obtain ⟨Gi, h1, h2⟩ := List.mem_flatten.1 hr
    exact (groups_mem (List.mem_of_mem_take h1)).1 r h2

set_option maxHeartbeats 8000000 in
set_option maxRecDepth 100000 in
theorem RowsApart_any (A : Option Addr) (c : Nat) (L : List (List V)) (x y f : Int) (w : World) (hG : G w) (hl : LReads0 w w.heap.size A L) (hL : InL L) (hx : 0 ≤ x ∧ x ≤ 255) (hy : 0 ≤ y ∧ y ≤ 255) (hf : 0 ≤ f ∧ f ≤ 255) :
    Calls Tryz.prog 11 #[.slice A L.length c, .agg #[.int .u8 x, .int .u8 y], .int .u8 f] w fun e w' => e = .returned (.bool true) ∧ Below w.heap.size w w' := by
  have H0 := Lib.hid (And.intro hG (And.intro hl hL))
  obtain ⟨p0, hp0, hp0'⟩ : ∃ n : Nat, x.tmod 3 = n ∧ n < 3 := ⟨(x % 3).toNat, by rw [Int.tmod_eq_emod_of_nonneg hx.1]; omega, by omega⟩
  obtain ⟨p1, hp1, hp1'⟩ : ∃ n : Nat, y.tmod 3 = n ∧ n < 3 := ⟨(y % 3).toNat, by rw [Int.tmod_eq_emod_of_nonneg hy.1]; omega, by omega⟩
  obtain ⟨m, hm, hm'⟩ : ∃ n : Nat, f.tmod 3 = n ∧ n < 3 := ⟨(f % 3).toNat, by rw [Int.tmod_eq_emod_of_nonneg hf.1]; omega, by omega⟩
  obtain ⟨hx0, hx1⟩ := hx
  obtain ⟨hy0, hy1⟩ := hy
  obtain ⟨hf0, hf1⟩ := hf
  have hb1 : Below w.heap.size w (w.alloc (.cells #[.int .u8 x, .int .u8 y] 72)) := al (Below.refl _ _) _
  have HB1 := Lib.hid (And.intro hb1 (Blk.new w 72 #[.int .u8 x, .int .u8 y]))
  clear hG hl hL hb1
  go_enter Tryz.func11, Tryz.ntmps11
  go_wp2_with fail
  refine (some_any A c L 14 _ (H0.out.2.1.below HB1.out.1 HB1.out.1.size) H0.out.2.2 (by omega)).mono ?_
  rintro e w1 ⟨A1, c1, l, rfl, -, hn, hc, hl, hb⟩
  have S1 := Lib.hid (And.intro (H0.out.1.thn (thn HB1.out.1 hb)) (And.intro hl (thn HB1.out.1 hb)))
  have k0 := (HB1.out.2.below hb (by simp)).cell 0
  have k1 := (HB1.out.2.below hb (by simp)).cell 1
  have Nl := Lib.hid (And.intro hn hc)
  clear hn hc hl hb
  go_wp2_with fail
  have hpl : (([(p0 : Int), (p1 : Int)]).take m).length = m := by rw [List.length_take]; simp; omega
  have hpm : ∀ p ∈ ([(p0 : Int), (p1 : Int)]).take m, 0 ≤ p ∧ p < 3 := fun p hp => by
    have := List.mem_of_mem_take hp
    simp only [List.mem_cons, List.not_mem_nil, or_false] at this
    omega
  have hb2 : Below w1.heap.size w1 (w1.alloc (.cells #[.int .i64 (p0 : Int), .int .i64 (p1 : Int)] 3)) := al (Below.refl _ _) _
  have hir : IReads (w1.alloc (.cells #[.int .i64 (p0 : Int), .int .i64 (p1 : Int)] 3)) (w1.heap.size + 1) (some ⟨w1.heap.size, 0, none⟩) (([(p0 : Int), (p1 : Int)]).take m) := ireads_blk (qs := ([(p0 : Int), (p1 : Int)]).drop m) (by rw [List.take_append_drop]; exact Blk.new _ _ _) (by omega)
  have hir2 : IReads (w1.alloc (.cells #[.int .i64 (p0 : Int), .int .i64 (p1 : Int)] 3)) (w1.alloc (.cells #[.int .i64 (p0 : Int), .int .i64 (p1 : Int)] 3)).heap.size (some ⟨w1.heap.size, 0, none⟩) (([(p0 : Int), (p1 : Int)]).take m) := by
    rw [show (w1.alloc (.cells #[.int .i64 (p0 : Int), .int .i64 (p1 : Int)] 3)).heap.size = w1.heap.size + 1 by simp]
    exact hir
  have S2 := Lib.hid (And.intro (S1.out.1.thn hb2) (And.intro (S1.out.2.1.below hb2 hb2.size) (And.intro (thn S1.out.2.2 hb2) hir2)))
  have HP := Lib.hid (And.intro hpl hpm)
  clear hpl hpm hb2 hir hir2 k0 k1 hp0 hp1 hm
  generalize ([(p0 : Int), (p1 : Int)]).take m = ps at *
  generalize w1.alloc (.cells #[.int .i64 (p0 : Int), .int .i64 (p1 : Int)] 3) = w2 at *
  have hpb : placesB l ps = true := List.all_eq_true.2 fun r hr => List.all_eq_true.2 fun p hp => by
    have h1 := HP.out.2 p hp
    have h2 := (Nl.out.1.2 r hr).1
    unfold plB
    rw [h2]
    simp; omega
  have he0 : ordE l (pK ps) = 0 := ordE_place (Nl.out.1.chk (by omega)) (by rw [pK_fst]; exact hpb)
  have q := Groups_law A1 c1 l (some ⟨w1.heap.size, 0, none⟩) 2 ps w2 S2.out.2.1 (Nl.out.1.inL (by unfold maxLen; omega)) S2.out.2.2.2 (by rw [HP.out.1]; omega)
  rw [HP.out.1, he0] at q
  have HQ := Lib.hid q
  have HG := Lib.hid (gfacts (natP ps) l)
  have HGM : Hid (∀ r ∈ l, ∀ p ∈ ps, plB p r.length = true) := Lib.hid fun r hr => List.all_eq_true.1 (List.all_eq_true.1 hpb r hr)
  clear q he0 hpb
  generalize groupsR (natP ps) l = G1 at *
  generalize headsR (natP ps) l = H at *
  refine HQ.out.mono ?_
  rintro e w3 ⟨Ao, no, co, rfl, h1, -, hb⟩
  obtain ⟨rfl, hg⟩ := h1 rfl
  have S3 := Lib.hid (And.intro (S2.out.1.thn hb) (And.intro (S2.out.2.1.below hb hb.size) (And.intro (thn S2.out.2.2.1 hb) (And.intro (S2.out.2.2.2.below hb hb.size) hg))))
  have hG14 : G1.length ≤ 14 := Nat.le_trans (HG.out.few1) Nl.out.1.1
  have hm2 : m ≤ 2 := by omega
  have HHFA : Hid (∀ (j : Nat) (h : j < H.length), H[j].length ≤ 1000000 ∧ VFit H[j]) := Lib.hid fun j h => by
    have hj : j < G1.length := by rw [HG.out.len]; exact h
    have hp := HG.out.pos j hj
    have hmj : G1[j][0] ∈ l := HG.out.mem (j + 1) _ (by
      rw [List.take_succ_eq_append_getElem hj, List.flatten_append]
      exact List.mem_append.2 (.inr (by simp)))
    have h1 := HG.out.same j hj h _ (List.getElem_mem hp)
    rw [← h1]
    refine ⟨by rw [atR_len, natP_len, HP.out.1]; omega, fun v hv => ?_⟩
    obtain ⟨p, hp, rfl⟩ := List.mem_map.1 hv
    obtain ⟨p', hp', rfl⟩ := List.mem_map.1 hp
    obtain ⟨p0, p1⟩ := plB_true (HGM.out _ hmj p' hp')
    have hm : p'.toNat < G1[j][0].length := by omega
    rw [List.getElem?_eq_getElem hm]
    exact (Nl.out.1.fit _ hmj).2 _ (List.getElem_mem hm)
  clear h1 hb hg HQ S1 S2 H0 HB1
  go_wp2_with fail
  obtain ⟨i0, hi, hz0, hz1', hz2'⟩ := info_parts infoR
  go_loopw [11, 12, 13] (fun va vh ii wr => ∃ (i : Nat) (F : List (List V)), i ≤ G1.length ∧ ii = .int .i64 i ∧ F.length ≤ 14 ∧ Hid (F = (G1.take i).flatten) ∧ Hid (∃ hs vs, wr.ownsRow w3.heap.size 34 1 va F.length hs ∧ RowsR wr w3.heap.size hs F ∧ wr.ownsRow w3.heap.size 34 1 vh i vs ∧ OwnRs wr w3.heap.size vs (H.take i) ∧ Apart vh vs ∧ Apart va vs ∧ (va.ownBlock = none ∨ va.ownBlock ≠ vh.ownBlock) ∧ Below w3.heap.size w3 wr)) (fun _ _ ii _ => G1.length - (intOf ii).toNat)
  case atStart => exact ⟨0, [], Nat.zero_le _, rfl, Nat.zero_le _, rfl, [], [], ⟨rfl, .inl ⟨rfl, rfl⟩⟩, ⟨rfl, fun i r h => by cases h⟩, ⟨rfl, .inl ⟨rfl, rfl⟩⟩, OwnRs.nil _ _, (fun x hx => by cases hx), (fun x hx => by cases hx), .inl rfl, Below.refl _ _⟩
  case round =>
    obtain ⟨i, F, hi1, rfl, hF14, HFe, HI⟩ := hrel
    by_cases hli : i < G1.length
    · have hli2 : i < H.length := by have := HG.out.len; omega
      have hpos := HG.out.pos i hli
      have hle := Lib.hid (HG.out.few (i + 1))
      have hmm := Lib.hid (HG.out.mem (i + 1))
      have hcat : Hid ((G1.take (i + 1)).flatten = F ++ G1[i]) := by
        show _ = _
        rw [List.take_succ_eq_append_getElem hli, List.flatten_append, HFe.out]; simp
      have hgl : F.length + G1[i].length ≤ 14 := by
        have h1 := hle.out
        rw [hcat.out, List.length_append] at h1
        have := Nl.out.1.1
        omega
      have hsm := Lib.hid (HG.out.same i hli hli2)
      have hrl : Hid (∀ r ∈ G1[i], r ∈ l) := fun r hr => hmm.out r (by rw [hcat.out]; exact List.mem_append.2 (.inr hr))
      obtain ⟨hs, vs, i1, i2, i3, i4, i5, i6, i7, hbw⟩ := HI.out
      obtain ⟨bg, og, Ag, cg, rfl, hblk, hcell, hlg⟩ := S3.out.2.2.2.2.at_ hli
      obtain ⟨b0, o0, Ar0, cr0, rfl, hblk0, hcell0, -, hv0⟩ := hlg.at_ hpos
      have hii : (i : Int) < (G1.length : Int) := by omega
      have hz1 : ¬ ((G1[i].length : Nat) : Int) = 0 := by omega
      have hz2 : (((G1[i].length : Nat) : Int) == 0) = false := by
        rw [Bool.eq_false_iff]; intro h; rw [beq_iff_eq] at h; omega
      have hz3 : (0 : Int) < (G1[i].length : Int) := by omega
      have HW := Lib.hid (And.intro i1 (And.intro i2 (And.intro i3 (And.intro i4 (And.intro i5 (And.intro i6 (And.intro i7 hbw)))))))
      have HV := Lib.hid (And.intro hlg (And.intro hv0 (And.intro hcell hcell0)))
      have HPS : Hid (IReads w3 w3.heap.size (some ⟨w1.heap.size, 0, none⟩) ps) := S3.out.2.2.2.1
      have HNR : Hid (∀ r ∈ G1[i], r.length = 3 ∧ VFit r) := Lib.hid fun r hr => ⟨(Nl.out.1.2 r (hrl.out r hr)).1, (Nl.out.1.fit r (hrl.out r hr)).2⟩
      have HGP : Hid (∀ r ∈ G1[i], ∀ p ∈ ps, plB p r.length = true) := Lib.hid fun r hr => HGM.out r (hrl.out r hr)
      have kc := (hbw.cell (p := ⟨bg, _, none⟩) hblk).trans hcell
      have kc0 : wr.cell? ⟨b0, o0, none⟩ = some (.slice Ar0 G1[i][0].length cr0) := (hbw.cell (p := ⟨b0, _, none⟩) hblk0).trans hcell0
      have hm6 : ps.length ≤ 1000000 := by rw [HP.out.1]; omega
      clear i1 i2 i3 i4 i5 i6 i7 hbw hlg hv0 HI hcell hcell0
      go_wp2_with fail
      have q := RPlaces_any (some ⟨b0, o0, none⟩) (some ⟨w1.heap.size, 0, none⟩) cg 2 G1[i] ps wr (HV.out.1.below HW.out.2.2.2.2.2.2.2 HW.out.2.2.2.2.2.2.2.size) (HPS.out.below HW.out.2.2.2.2.2.2.2 HW.out.2.2.2.2.2.2.2.size) (by omega) (fun r h => by rw [(HNR.out r h).1]; unfold maxLen; omega) hm6
      rw [HP.out.1, show placesB G1[i] ps = true from List.all_eq_true.2 fun r hr => List.all_eq_true.2 (HGP.out r hr)] at q
      refine q.mono ?_
      clear q
      rintro e w4 ⟨rfl, hb⟩
      have B4 := Lib.hid (And.intro (thn HW.out.2.2.2.2.2.2.2 hb) hb)
      have kd := (hb.cell (p := ⟨bg, _, none⟩) (by have := HW.out.2.2.2.2.2.2.2.size; show bg < wr.heap.size; omega)).trans kc
      have kd0 : w4.cell? ⟨b0, o0, none⟩ = some (.slice Ar0 G1[i][0].length cr0) := (hb.cell (p := ⟨b0, _, none⟩) (by have := HW.out.2.2.2.2.2.2.2.size; show b0 < wr.heap.size; omega)).trans kc0
      clear kc kc0 hb
      go_wp2_with fail
      have q := RAt_any Ar0 (some ⟨w1.heap.size, 0, none⟩) cr0 2 G1[i][0] ps w4 (HV.out.2.1.below B4.out.1 B4.out.1.size) (HNR.out _ (List.getElem_mem hpos)).2 (by rw [(HNR.out _ (List.getElem_mem hpos)).1]; unfold maxLen; omega) (HPS.out.below B4.out.1 B4.out.1.size) hm6 (HGP.out _ (List.getElem_mem hpos))
      rw [HP.out.1, hsm.out _ (List.getElem_mem hpos)] at q
      refine q.mono ?_
      clear q kd kd0
      rintro e w5 ⟨v, rfl, hvo, hb⟩
      obtain ⟨a1, ch, rfl⟩ := own_slice hvo
      have B5 := Lib.hid (And.intro (thn B4.out.1 hb) (And.intro (thn B4.out.2 hb) (And.intro hvo hb)))
      have HHF : Hid (H[i].length ≤ 1000000 ∧ VFit H[i]) := HHFA.out i hli2
      clear hvo hb
      generalize wr = wr0 at *
      go_wp2_with fail
      go_loopw [15] (fun kk wi => ∃ k : Nat, k ≤ G1[i].length ∧ kk = .int .i64 k ∧ Hid (Below w5.heap.size w5 wi)) (fun kk _ => G1[i].length - (intOf kk).toNat)
      case atStart => exact ⟨0, Nat.zero_le _, rfl, Below.refl _ _⟩
      case round =>
        obtain ⟨k, hk, rfl, HJ⟩ := hrel
        have HB6 := Lib.hid (And.intro (thn B5.out.1 HJ.out) (thn B5.out.2.1 HJ.out))
        have kc := (HB6.out.1.cell (p := ⟨bg, _, none⟩) hblk).trans HV.out.2.2.1
        by_cases hlk : k < G1[i].length
        · obtain ⟨b0', o0', Ark, crk, e0, hblkk, hcellk, -, hvk⟩ := HV.out.1.at_ hlk
          have e1 : b0' = b0 ∧ o0' = o0 := by injection e0 with e0; injection e0 with h1 h2; exact ⟨h1.symm, h2.symm⟩
          obtain ⟨rfl, rfl⟩ := e1
          have kk := (HB6.out.1.cell (p := ⟨b0', _, none⟩) hblkk).trans hcellk
          have hki : (k : Int) < (G1[i].length : Int) := by omega
          have HVK := Lib.hid hvk
          clear e0 hcellk hvk
          go_wp2_with fail
          have q := RAt_any Ark (some ⟨w1.heap.size, 0, none⟩) crk 2 G1[i][k] ps wr (HVK.out.below HB6.out.1 HB6.out.1.size) (HNR.out _ (List.getElem_mem hlk)).2 (by rw [(HNR.out _ (List.getElem_mem hlk)).1]; unfold maxLen; omega) (HPS.out.below HB6.out.1 HB6.out.1.size) hm6 (HGP.out _ (List.getElem_mem hlk))
          rw [HP.out.1, hsm.out _ (List.getElem_mem hlk)] at q
          refine q.mono ?_
          clear q kk kc
          rintro e w7 ⟨v, rfl, hvo, hb⟩
          obtain ⟨a2, c2, rfl, -, hv2⟩ := own_plain hvo
          have HJ7 := Lib.hid (And.intro (thn HJ.out hb) hv2)
          clear hvo hb hv2
          obtain ⟨a1', c1', e1, -, hv1⟩ := own_plain (own_below B5.out.2.2.1 HJ7.out.1)
          have HV1 := Lib.hid hv1
          have e2 : a1' = a1 := by injection e1 with h1; exact h1.symm
          subst e2
          clear e1 hv1
          go_wp2_with fail
          refine (RCompare_rows a2 a1' c2 ch H[i] H[i] w7 HJ7.out.2 HV1.out HHF.out.2 HHF.out.2 (by have := HHF.out.1; unfold maxLen; omega) (by have := HHF.out.1; unfold maxLen; omega)).mono ?_
          rintro e w8 ⟨rfl, hb⟩
          have HJ8 := Lib.hid (thn HJ7.out.1 hb)
          rw [cmpR_self]
          clear hb
          go_wp2_with fail
          go_roundw
          case rel => exact ⟨k + 1, by omega, by go_num, HJ8⟩
          case measure => simp [intOf]; omega
        · have hki : decide ((k : Int) < (G1[i].length : Int)) = false := by simp; omega
          rcases Nat.eq_zero_or_pos i with hi0 | hi0
          · have hd0 : decide ((0 : Int) < (i : Int)) = false := by simp; omega
            have hd1 : ¬ (0 : Int) < (i : Int) := by omega
            have hd2 : ¬ 0 < i := by omega
            have hd3 : decide (0 < i) = false := by simp; omega
            clear hi0
            have HZ := Lib.hid HB6.out
            have hvW : Hid (OwnR wr w4.heap.size (.slice a1 H[i].length ch) H[i]) := Lib.hid (own_below B5.out.2.2.1 HJ.out)
            have kg := (HZ.out.1.cell (p := ⟨bg, _, none⟩) hblk).trans HV.out.2.2.1
            have q1 := Blk.new wr 34 #[.slice a1 H[i].length ch]
            have q2 := sread_one q1 (B := wr.heap.size + 1) (by omega)
            have hbr : Below wr0.heap.size wr0 wr := HZ.out.2
            have H1 := Lib.hid (And.intro ((own_below HW.out.2.2.1 hbr).alloc (.cells #[.slice a1 H[i].length ch] 34)) q2)
            clear q1 q2 hbr
            go_wp2_with (at_builtin; refine wpList_append_any _ rfl (.tmp 103) (.tmp 105) 23 rfl w3.heap.size 34 i0 (.slice none 0 0) 1 24 Tryz.underlying23 hi hz0 hz1' hz2' rfl (by decide) _ _ _ rfl H1.out.1 (wr.heap.size + 1) _ 1 1 [.slice a1 H[i].length ch] rfl H1.out.2 ?c1 ?c2 ?c3 ?c4 ?_)
            case c1 => first | rfl | (intro u hu; simp only [List.mem_cons, List.not_mem_nil, or_false] at hu; subst hu; rfl)
            case c2 => unfold maxLen; omega
            case c3 => omega
            case c4 => have := HZ.out.1.size; simp <;> omega
            intro v9 w9 ho9 hg9 hu9
            have hbase9 := own_base H1.out.1
            have hb9 : Below w3.heap.size w3 w9 := (al HZ.out.1 _).grown hg9 (by have := HZ.out.1.size; simp <;> omega) hbase9
            obtain ⟨vg, hrdg, hRg⟩ := (HV.out.1.below hb9 (Nat.le_refl _)).hdr
            have kg9 := (hb9.cell (p := ⟨bg, _, none⟩) hblk).trans HV.out.2.2.1
            have hownA : w9.ownsRow w3.heap.size 34 1 u11 F.length hs := ((own_below HW.out.1 HZ.out.2).alloc (.cells #[.slice a1 H[i].length ch] 34)).kept hg9 HW.out.2.2.2.2.2.2.1
            have H9 := Lib.hid (And.intro ho9 (And.intro hg9 (And.intro hu9 (And.intro hb9 (And.intro hrdg (And.intro hRg hownA))))))
            clear ho9 hg9 hu9 hb9 hrdg hRg hownA kg
            go_wp2_with (at_builtin; refine wpList_append_any _ rfl (.tmp 107) (.tmp 111) 23 rfl w3.heap.size 34 i0 (.slice none 0 0) 1 24 Tryz.underlying23 hi hz0 hz1' hz2' rfl (by decide) _ _ _ rfl H9.out.2.2.2.2.2.2 w3.heap.size _ _ _ vg rfl H9.out.2.2.2.2.1 H9.out.2.2.2.2.2.1.cell1 ?d2 ?d3 ?d4 ?_)
            case d2 => unfold maxLen; omega
            case d3 => omega
            case d4 => exact H9.out.2.2.2.1.size
            intro v10 w10 ho10 hg10 hu10
            have HN : Hid (∃ hs vs, w10.ownsRow w3.heap.size 34 1 v10 (F ++ G1[i]).length hs ∧ RowsR w10 w3.heap.size hs (F ++ G1[i]) ∧ w10.ownsRow w3.heap.size 34 1 v9 (i + 1) vs ∧ OwnRs w10 w3.heap.size vs (H.take (i + 1)) ∧ Apart v9 vs ∧ Apart v10 vs ∧ (v10.ownBlock = none ∨ v10.ownBlock ≠ v9.ownBlock) ∧ Below w3.heap.size w3 w10) := by
              obtain ⟨i1, i2, i3, i4, i5, i6, i7, i8⟩ := HW.out
              obtain ⟨j1, j2, j3, j4, j5, j6, j7⟩ := H9.out
              have hbr : Below wr0.heap.size wr0 wr := HZ.out.2
              have hbA : Below wr0.heap.size wr0 (wr.alloc (.cells #[.slice a1 H[i].length ch] 34)) := al hbr _
              have hwr : w3.heap.size ≤ wr0.heap.size := i8.size
              have hv4 : OwnR wr w4.heap.size (.slice a1 H[i].length ch) H[i] := hvW.out
              have hw4 : wr0.heap.size ≤ w4.heap.size := B4.out.2.size
              have z1 := (OwnRs.snoc (i4.below hbr) (own_weaker hv4 (Nat.le_trans hwr hw4))).below (al (Below.refl _ _) (.cells #[.slice a1 H[i].length ch] 34))
              have hold : ∀ (u : Value), (∀ g, u.ownBlock = some g → g < wr0.heap.size) → Apart u vs → Apart u (vs ++ [.slice a1 H[i].length ch]) := fun u hu ha x hx => by
                rcases List.mem_append.1 hx with h | h
                · exact ha x h
                · simp only [List.mem_cons, List.not_mem_nil, or_false] at h
                  subst h
                  cases hb : Value.ownBlock (.slice a1 H[i].length ch) with
                  | none => exact .inl rfl
                  | some g =>
                    refine .inr fun e => ?_
                    have := (hv4.lt g hb).1
                    have := hu g e.symm
                    omega
              have zh : Apart u12 (vs ++ [.slice a1 H[i].length ch]) := hold u12 (fun g e => (i3.lt g e).2) i5
              have za : Apart u11 (vs ++ [.slice a1 H[i].length ch]) := hold u11 (fun g e => (i1.lt g e).2) i6
              have z2 := z1.kept zh j2
              have z3 := z2.kept za hg10
              have hsz1 : (wr.alloc (.cells #[.slice a1 H[i].length ch] 34)).heap.size ≤ w9.heap.size := j2.size
              have hth : H.take (i + 1) = H.take i ++ [H[i]] := List.take_succ_eq_append_getElem hli2
              have hba := own_base j7
              have hWs := hbr.size
              have hWl : wr0.heap.size ≤ (wr.alloc (.cells #[.slice a1 H[i].length ch] 34)).heap.size := hbA.size
              have hv9 : v9.ownBlock = none ∨ v9.ownBlock ≠ u11.ownBlock := by
                rcases j3 with e | e
                · rw [e]
                  rcases i7 with h | h
                  · cases hh : Value.ownBlock u12 with
                    | none => exact .inl rfl
                    | some g => exact .inr fun e2 => by rw [h] at e2; cases e2
                  · exact .inr fun e2 => h e2.symm
                · refine .inr fun e2 => ?_
                  rw [e] at e2
                  have := (i1.lt _ e2.symm).2
                  omega
              refine ⟨hs ++ vg, vs ++ [.slice a1 H[i].length ch], ?_, ?_, ?_, ?_, ?_, ?_, ?_, ?_⟩
              · rw [List.length_append]; exact ho10
              · exact (((i2.below (hbA.mono hwr)).grown j2 (Nat.le_trans hwr hWl) (own_base H1.out.1)).app j6).grown hg10 (Nat.le_trans (Nat.le_trans hwr hWl) hsz1) hba
              · exact j1.kept hg10 hv9
              · rw [hth]; exact z3
              · exact Apart.app z1 zh (n := wr.heap.size + 1) (by simp) j3
              · exact Apart.app z2 za (n := w9.heap.size) (Nat.le_refl _) hu10
              · rcases hu10 with e | e
                · rw [e]
                  rcases hv9 with h | h
                  · cases hh : u11.ownBlock with
                    | none => exact .inl rfl
                    | some g => exact .inr fun e2 => by rw [h] at e2; cases e2
                  · exact .inr fun e2 => h e2.symm
                · refine .inr fun e2 => ?_
                  rw [e] at e2
                  have := (j1.lt _ e2.symm).2
                  omega
              · exact j4.grown hg10 j4.size hba
            have hfl : (F ++ G1[i]).length ≤ 14 := by rw [List.length_append]; omega
            clear ho10 hg10 hu10
            go_wp2_with fail
            go_roundw
            case rel => exact ⟨i + 1, F ++ G1[i], by omega, by go_num, hfl, Lib.hid hcat.out.symm, HN⟩
            case measure => simp [intOf]; omega
          · obtain ⟨j, rfl⟩ : ∃ j, i = j + 1 := ⟨i - 1, by omega⟩
            have hlh := OutR.lreads (w := w3) (R := H.take (j + 1)) ⟨vs, by rw [show (H.take (j + 1)).length = j + 1 by rw [List.length_take]; omega]; exact own_below HW.out.2.2.1 HB6.out.2, HW.out.2.2.2.1.below HB6.out.2⟩
            obtain ⟨A12, c12, eh, hlr⟩ := hlh
            rw [show (H.take (j + 1)).length = j + 1 by rw [List.length_take]; omega] at eh
            have hjl : j < (H.take (j + 1)).length := by rw [List.length_take]; omega
            obtain ⟨bh, oh, Arj, crj, e12, hblkj, hcellj, -, hvj⟩ := hlr.at_ hjl
            have hgj : (H.take (j + 1))[j] = H[j] := List.getElem_take
            rw [hgj] at hcellj hvj
            have hjH : j < H.length := by omega
            have hrise := Lib.hid (HG.out.rise j hli2)
            have HHJ : Hid (H[j].length ≤ 1000000 ∧ VFit H[j]) := HHFA.out j hjH
            have HZ := Lib.hid (And.intro hvj HB6.out)
            have hvW : Hid (OwnR wr w4.heap.size (.slice a1 H[j + 1].length ch) H[j + 1]) := Lib.hid (own_below B5.out.2.2.1 HJ.out)
            have hgt : (0 : Int) < ((j + 1 : Nat) : Int) := by omega
            have heh := Lib.hid eh
            clear hlr hvj hgj
            subst eh e12
            go_wp2_with fail
            obtain ⟨a1', c1', e1, -, hv1⟩ := own_plain (own_below B5.out.2.2.1 HJ.out)
            have HV1 := Lib.hid hv1
            have e2 : a1' = a1 := by injection e1 with h1; exact h1.symm
            subst e2
            clear e1 hv1
            refine (RCompare_rows Arj a1' crj ch H[j] H[j + 1] wr HZ.out.1 HV1.out HHJ.out.2 HHF.out.2 (by have := HHJ.out.1; unfold maxLen; omega) (by have := HHF.out.1; unfold maxLen; omega)).mono ?_
            rintro e w8 ⟨rfl, hb⟩
            have HZ8 := Lib.hid (And.intro (thn HZ.out.2.1 hb) (thn HZ.out.2.2 hb))
            have hvW8 : Hid (OwnR w8 w4.heap.size (.slice a1' H[j + 1].length ch) H[j + 1]) := Lib.hid (own_below hvW.out hb)
            have hge : decide (cmpR H[j] H[j + 1] ≥ 0) = false := by have := hrise.out; simp; omega
            have hge2 : decide (0 ≤ cmpR H[j] H[j + 1]) = false := by have := hrise.out; simp; omega
            clear hb hcellj kc
            generalize cmpR H[j] H[j + 1] = qq at *
            clear hrise
            have kg := (HZ8.out.1.cell (p := ⟨bg, _, none⟩) hblk).trans HV.out.2.2.1
            have q1 := Blk.new w8 34 #[.slice a1' H[j + 1].length ch]
            have q2 := sread_one q1 (B := w8.heap.size + 1) (by omega)
            have hbr : Below wr0.heap.size wr0 w8 := HZ8.out.2
            have H1 := Lib.hid (And.intro ((own_below HW.out.2.2.1 hbr).alloc (.cells #[.slice a1' H[j + 1].length ch] 34)) q2)
            clear q1 q2 hbr
            go_wp2_with (at_builtin; refine wpList_append_any _ rfl (.tmp 103) (.tmp 105) 23 rfl w3.heap.size 34 i0 (.slice none 0 0) 1 24 Tryz.underlying23 hi hz0 hz1' hz2' rfl (by decide) _ _ _ rfl H1.out.1 (w8.heap.size + 1) _ 1 1 [.slice a1' H[j + 1].length ch] rfl H1.out.2 ?c1 ?c2 ?c3 ?c4 ?_)
            case c1 => first | rfl | (intro u hu; simp only [List.mem_cons, List.not_mem_nil, or_false] at hu; subst hu; rfl)
            case c2 => unfold maxLen; omega
            case c3 => omega
            case c4 => have := HZ8.out.1.size; simp <;> omega
            intro v9 w9 ho9 hg9 hu9
            have hbase9 := own_base H1.out.1
            have hb9 : Below w3.heap.size w3 w9 := (al HZ8.out.1 _).grown hg9 (by have := HZ8.out.1.size; simp <;> omega) hbase9
            obtain ⟨vg, hrdg, hRg⟩ := (HV.out.1.below hb9 (Nat.le_refl _)).hdr
            have kg9 := (hb9.cell (p := ⟨bg, _, none⟩) hblk).trans HV.out.2.2.1
            have hownA : w9.ownsRow w3.heap.size 34 1 u11 F.length hs := ((own_below HW.out.1 HZ8.out.2).alloc (.cells #[.slice a1' H[j + 1].length ch] 34)).kept hg9 HW.out.2.2.2.2.2.2.1
            have H9 := Lib.hid (And.intro ho9 (And.intro hg9 (And.intro hu9 (And.intro hb9 (And.intro hrdg (And.intro hRg hownA))))))
            clear ho9 hg9 hu9 hb9 hrdg hRg hownA kg
            go_wp2_with (at_builtin; refine wpList_append_any _ rfl (.tmp 107) (.tmp 111) 23 rfl w3.heap.size 34 i0 (.slice none 0 0) 1 24 Tryz.underlying23 hi hz0 hz1' hz2' rfl (by decide) _ _ _ rfl H9.out.2.2.2.2.2.2 w3.heap.size _ _ _ vg rfl H9.out.2.2.2.2.1 H9.out.2.2.2.2.2.1.cell1 ?d2 ?d3 ?d4 ?_)
            case d2 => unfold maxLen; omega
            case d3 => omega
            case d4 => exact H9.out.2.2.2.1.size
            intro v10 w10 ho10 hg10 hu10
            have HN : Hid (∃ hs vs, w10.ownsRow w3.heap.size 34 1 v10 (F ++ G1[j + 1]).length hs ∧ RowsR w10 w3.heap.size hs (F ++ G1[j + 1]) ∧ w10.ownsRow w3.heap.size 34 1 v9 (j + 1 + 1) vs ∧ OwnRs w10 w3.heap.size vs (H.take (j + 1 + 1)) ∧ Apart v9 vs ∧ Apart v10 vs ∧ (v10.ownBlock = none ∨ v10.ownBlock ≠ v9.ownBlock) ∧ Below w3.heap.size w3 w10) := by
              obtain ⟨i1, i2, i3, i4, i5, i6, i7, i8⟩ := HW.out
              obtain ⟨j1, j2, j3, j4, j5, j6, j7⟩ := H9.out
              have hbr : Below wr0.heap.size wr0 w8 := HZ8.out.2
              have hbA : Below wr0.heap.size wr0 (w8.alloc (.cells #[.slice a1' H[j + 1].length ch] 34)) := al hbr _
              have hwr : w3.heap.size ≤ wr0.heap.size := i8.size
              have hv4 : OwnR w8 w4.heap.size (.slice a1' H[j + 1].length ch) H[j + 1] := hvW8.out
              have hw4 : wr0.heap.size ≤ w4.heap.size := B4.out.2.size
              have z1 := (OwnRs.snoc (i4.below hbr) (own_weaker hv4 (Nat.le_trans hwr hw4))).below (al (Below.refl _ _) (.cells #[.slice a1' H[j + 1].length ch] 34))
              have hold : ∀ (u : Value), (∀ g, u.ownBlock = some g → g < wr0.heap.size) → Apart u vs → Apart u (vs ++ [.slice a1' H[j + 1].length ch]) := fun u hu ha x hx => by
                rcases List.mem_append.1 hx with h | h
                · exact ha x h
                · simp only [List.mem_cons, List.not_mem_nil, or_false] at h
                  subst h
                  cases hb : Value.ownBlock (.slice a1' H[j + 1].length ch) with
                  | none => exact .inl rfl
                  | some g =>
                    refine .inr fun e => ?_
                    have := (hv4.lt g hb).1
                    have := hu g e.symm
                    omega
              have zh : Apart (.slice (some ⟨bh, oh, none⟩) (j + 1) c12) (vs ++ [.slice a1' H[j + 1].length ch]) := hold (.slice (some ⟨bh, oh, none⟩) (j + 1) c12) (fun g e => (i3.lt g e).2) i5
              have za : Apart u11 (vs ++ [.slice a1' H[j + 1].length ch]) := hold u11 (fun g e => (i1.lt g e).2) i6
              have z2 := z1.kept zh j2
              have z3 := z2.kept za hg10
              have hsz1 : (w8.alloc (.cells #[.slice a1' H[j + 1].length ch] 34)).heap.size ≤ w9.heap.size := j2.size
              have hth : H.take (j + 1 + 1) = H.take (j + 1) ++ [H[j + 1]] := List.take_succ_eq_append_getElem hli2
              have hba := own_base j7
              have hWs := hbr.size
              have hWl : wr0.heap.size ≤ (w8.alloc (.cells #[.slice a1' H[j + 1].length ch] 34)).heap.size := hbA.size
              have hv9 : v9.ownBlock = none ∨ v9.ownBlock ≠ u11.ownBlock := by
                rcases j3 with e | e
                · rw [e]
                  rcases i7 with h | h
                  · cases hh : Value.ownBlock (.slice (some ⟨bh, oh, none⟩) (j + 1) c12) with
                    | none => exact .inl rfl
                    | some g => exact .inr fun e2 => by rw [h] at e2; cases e2
                  · exact .inr fun e2 => h e2.symm
                · refine .inr fun e2 => ?_
                  rw [e] at e2
                  have := (i1.lt _ e2.symm).2
                  omega
              refine ⟨hs ++ vg, vs ++ [.slice a1' H[j + 1].length ch], ?_, ?_, ?_, ?_, ?_, ?_, ?_, ?_⟩
              · rw [List.length_append]; exact ho10
              · exact (((i2.below (hbA.mono hwr)).grown j2 (Nat.le_trans hwr hWl) (own_base H1.out.1)).app j6).grown hg10 (Nat.le_trans (Nat.le_trans hwr hWl) hsz1) hba
              · exact j1.kept hg10 hv9
              · rw [hth]; exact z3
              · exact Apart.app z1 zh (n := w8.heap.size + 1) (by simp) j3
              · exact Apart.app z2 za (n := w9.heap.size) (Nat.le_refl _) hu10
              · rcases hu10 with e | e
                · rw [e]
                  rcases hv9 with h | h
                  · cases hh : u11.ownBlock with
                    | none => exact .inl rfl
                    | some g => exact .inr fun e2 => by rw [h] at e2; cases e2
                  · exact .inr fun e2 => h e2.symm
                · refine .inr fun e2 => ?_
                  rw [e] at e2
                  have := (j1.lt _ e2.symm).2
                  omega
              · exact j4.grown hg10 j4.size hba
            have hfl : (F ++ G1[j + 1]).length ≤ 14 := by rw [List.length_append]; omega
            clear ho10 hg10 hu10
            go_wp2_with fail
            go_roundw
            case rel => exact ⟨j + 1 + 1, F ++ G1[j + 1], by omega, by go_num, hfl, Lib.hid hcat.out.symm, HN⟩
            case measure => simp [intOf]; omega
    · have hin : i = G1.length := by omega
      have HFA : Hid (canon F = canon l ∧ ∀ r ∈ F, r ∈ l) := by
        have h1 := HFe.out
        rw [hin, List.take_of_length_le (Nat.le_refl _)] at h1
        refine ⟨by rw [h1]; exact HG.out.all, fun r hr => ?_⟩
        have h2 := HG.out.mem G1.length r
        rw [List.take_of_length_le (Nat.le_refl _), ← h1] at h2
        exact h2 hr
      subst hin
      obtain ⟨hs, vs, i1, i2, -, -, -, -, -, hbw⟩ := HI.out
      obtain ⟨AF, cF, rfl, hlF⟩ := own_lreads i1 i2 hbw.size
      have NF : Hid (NiceL 14 F) := ⟨hF14, fun r hr => Nl.out.1.2 r (HFA.out.2 r hr)⟩
      have S6 := Lib.hid (And.intro (S3.out.1.thn hbw) (And.intro (S3.out.2.1.below hbw hbw.size) (And.intro (thn S3.out.2.2.1 hbw) hlF)))
      clear i1 i2 hbw hlF HI HFe
      go_wp2_with fail
      refine (Same_nice AF A1 cF c1 14 14 F l wr S6.out.1 S6.out.2.2.2 S6.out.2.1 NF.out Nl.out.1 (by omega) (by omega)).mono ?_
      rintro e w7 ⟨rfl, hb⟩
      have S7 := Lib.hid (And.intro (S6.out.1.thn hb) (thn S6.out.2.2.1 hb))
      have hdc : decide (canon F = canon l) = true := by simp [HFA.out.1]
      rw [hdc]
      clear hb hdc
      go_wp2_with fail
      refine (awake_any w7 S7.out.1).mono ?_
      rintro e w12 ⟨rfl, hb⟩
      have B12 := Lib.hid (thn S7.out.2 hb)
      clear hb
      go_wp2_with fail
      go_ret
      exact ⟨rfl, B12.out⟩
end Go.Proofs.YtapnnheggjahlaaGreatDoor
