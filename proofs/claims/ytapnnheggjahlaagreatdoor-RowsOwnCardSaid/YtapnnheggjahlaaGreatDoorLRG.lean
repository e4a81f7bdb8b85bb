/-
  THE WALK of RowsGroups.
-/
import Derived.Test.YtapnnheggjahlaaGreatDoorGQ
import Derived.Test.YtapnnheggjahlaaGreatDoorGM
namespace Go.Proofs.YtapnnheggjahlaaGreatDoor
open Go.RowKit

theorem groupsR_nil (q : List Nat) : groupsR q [] = [] := by
  have h : canon ([] : List (List V)) = [] := List.eq_nil_of_length_eq_zero (srtC_len _)
  unfold groupsR headsR
  rw [h, List.map_nil, h]; rfl
theorem gout_groups {ds : List (Nat × Bool)} {L : List (List V)} {ps : List Int} (hd : L = [] ∨ cmpKs ds = cmpKs (natK (pK ps))) : runsOf (cmpKs ds) (srtC (cmpKR ds) L) = groupsR (natP ps) L := by
  rcases hd with rfl | hd
  · rw [List.eq_nil_of_length_eq_zero (srtC_len (c := cmpKR ds) []), runsOf_nil, groupsR_nil]
  · have h : cmpKR ds = cmpKR (kR (natP ps)) := by unfold cmpKR; rw [hd, natK_pK]
    rw [hd, natK_pK, h]
    exact groups_eq (natP ps) L
theorem Groups_law (A : Option Addr) (c : Nat) (L : List (List V)) (Ap : Option Addr) (cp : Nat) (ps : List Int) (w : World) (hr : LReads w w.heap.size A L) (hi : InL L) (hp : IReads w w.heap.size Ap ps) (hpl : ps.length ≤ 1000000) :
    Calls Tryz.prog 39 #[.slice A L.length c, .slice Ap ps.length cp] w fun e w' => ∃ (Ao : Option Addr) (no co : Nat), e = .returned (.tuple #[.slice Ao no co, .int .i64 (ordE L (pK ps))]) ∧ (ordE L (pK ps) = 0 → no = (groupsR (natP ps) L).length ∧ GReads w' w'.heap.size Ao (groupsR (natP ps) L)) ∧ (ordE L (pK ps) ≠ 0 → no = 0) ∧ Below w.heap.size w w' := by
  refine (Groups_any A c L Ap cp ps w hr hi hp hpl).mono fun e w' ⟨v, h1, h2, h3, h4⟩ => ?_
  by_cases he : ordE L (pK ps) = 0
  · obtain ⟨ds, hd, hg⟩ := h2 he
    obtain ⟨A2, c2, rfl, hg2⟩ := hg.greads
    rw [gout_groups hd] at h1 hg2
    exact ⟨A2, _, c2, h1, fun _ => ⟨rfl, hg2⟩, fun h => absurd he h, h4⟩
  · have := h3 he
    subst this
    exact ⟨none, 0, 0, h1, fun h => absurd h he, fun _ => rfl, h4⟩
theorem groups_mem {q : List Nat} {L : List (List V)} {Gi : List (List V)} (h : Gi ∈ groupsR q L) : (∀ r ∈ Gi, r ∈ L) ∧ Gi.length ≤ L.length := by
  obtain ⟨x, -, rfl⟩ := List.mem_map.1 h
  exact ⟨fun r hr => srtC_mem.1 (List.mem_filter.1 hr).1, Nat.le_trans (List.length_filter_le ..) (by rw [srtC_len]; exact Nat.le_refl _)⟩

set_option maxHeartbeats 4000000 in
set_option maxRecDepth 100000 in
theorem RowsGroups_any (A Ak : Option Addr) (c ck : Nat) (L : List (List V)) (ps : List Int) (w : World) (hG : G w) (hl : LReads0 w w.heap.size A L) (hL : InL L) (hk : IReads w w.heap.size Ak ps) (hkc : ps.length ≤ ck) :
    Calls Tryz.prog 7 #[.slice A L.length c, .slice Ak ps.length ck] w fun e w' => e = .returned (.bool true) ∧ Below w.heap.size w w' := by
  have HG := Lib.hid hG
  have HF := Lib.hid hL
  clear hG
  have hmin : min (ps.length : Int) 20 = ((min ps.length 20 : Nat) : Int) := by omega
  have hmc : min ps.length 20 ≤ ck := by omega
  have HA := Lib.hid (And.intro hl (And.intro hL.fit hk))
  obtain ⟨i0, hi, hz0, hz1, hz2⟩ := info_parts infoI
  have HT : Hid ((ps.take 20).length = min ps.length 20) := by show _ = _; rw [List.length_take]; omega
  have HM := Lib.hid hmin
  clear hl hk
  go_enter Tryz.func7, Tryz.ntmps7
  go_wp2_with fail
  refine wp_region_grow (W := w) 8 [[], [0], [], [], [], [4], [5], [3, 6]] [] (fun i v w' => match i with
    | 0 => v = .slice A L.length c
    | 1 => CutAt w (cutL 30 L) v w'
    | 2 => EmpAt 3 1 w v w'
    | 3 => v = .slice Ak ps.length ck
    | 4 => v = .slice Ak ps.length ck
    | 5 => v = .int .i64 (ps.length : Nat)
    | 6 => v = .int .i64 (min ps.length 20 : Nat)
    | _ => v = .slice Ak (min ps.length 20) ck) (by kernel_rfl) (by kernel_rfl) ?hD ⟨?o0, ?o1, ?o2, ?o3, ?o4, ?o5, ?o6, ?o7, trivial⟩ ?fin
  case hD =>
    intro i v w1 w2 hb hd
    split at hd <;> first | exact hd | exact CutAt.below hd hb | exact EmpAt.below hd hb
  case o0 =>
    refine growOne_of (pre := []) rfl ?_
    simp only [fillL, Act.put]
    intro f w' hb hp
    clear hp
    go_wp2_with fail
    exact ⟨Below.refl _ _, rfl, fun h => by simp at h⟩
  case o1 =>
    refine growOne_of (pre := [0]) rfl ?_
    simp only [fillL, Region.dstOf, List.getElem?_toArray, List.getElem?_cons_zero, Option.bind_some, Act.put]
    intro f w' hb hp
    have h0 : f 0 = .slice A L.length c := hp 0 (List.mem_cons_self ..)
    clear hp
    rw [h0]
    have HB := Lib.hid hb
    clear hb h0
    go_wp2_with fail
    refine (CutL_any 30 A c L w' (HA.out.1.below HB.out HB.out.size) HA.out.2.1 (by omega)).mono ?_
    rintro e w1 ⟨v1, vs1, rfl, ho, hrs, _, hb⟩
    obtain ⟨a1, c1, rfl⟩ := own_slice ho
    have HO : Hid (growPost (fun i v w' => match i with
    | 0 => v = .slice A L.length c
    | 1 => CutAt w (cutL 30 L) v w'
    | 2 => EmpAt 3 1 w v w'
    | 3 => v = .slice Ak ps.length ck
    | 4 => v = .slice Ak ps.length ck
    | 5 => v = .int .i64 (ps.length : Nat)
    | 6 => v = .int .i64 (min ps.length 20 : Nat)
    | _ => v = .slice Ak (min ps.length 20) ck) [] 1 w' w1 (.slice a1 (cutL 30 L).length c1)) := ⟨hb, ⟨vs1, own_weaker ho HB.out.size, hrs.weaker HB.out.size⟩, fun h => by simp at h⟩
    clear ho hrs hb
    go_wp2_with fail
    exact HO.out
  case o2 =>
    refine growOne_of (pre := []) rfl ?_
    simp only [fillL, Act.put]
    intro f w' hb hp
    clear hp
    have HB := Lib.hid hb
    clear hb
    go_wp2_with fail
    exact ⟨al (Below.refl _ _) _, ⟨_, rfl, own_weaker (own_empty w' 3 1) HB.out.size⟩, fun h => by simp at h⟩
  case o3 =>
    refine growOne_of (pre := []) rfl ?_
    simp only [fillL, Act.put]
    intro f w' hb hp
    clear hp
    go_wp2_with fail
    exact ⟨Below.refl _ _, rfl, fun h => by simp at h⟩
  case o4 =>
    refine growOne_of (pre := []) rfl ?_
    simp only [fillL, Act.put]
    intro f w' hb hp
    clear hp
    go_wp2_with fail
    exact ⟨Below.refl _ _, rfl, fun h => by simp at h⟩
  case o5 =>
    refine growOne_of (pre := [4]) rfl ?_
    simp only [fillL, Region.dstOf, List.getElem?_toArray, List.getElem?_cons_zero, List.getElem?_cons_succ, Option.bind_some, Act.put]
    intro f w' hb hp
    have h0 : f 4 = .slice Ak ps.length ck := hp 4 (List.mem_cons_self ..)
    clear hp
    rw [h0]
    clear h0
    go_wp2_with fail
    exact ⟨Below.refl _ _, rfl, fun h => by simp at h⟩
  case o6 =>
    refine growOne_of (pre := [5]) rfl ?_
    simp only [fillL, Region.dstOf, List.getElem?_toArray, List.getElem?_cons_zero, List.getElem?_cons_succ, Option.bind_some, Act.put]
    intro f w' hb hp
    have h0 : f 5 = .int .i64 (ps.length : Nat) := hp 5 (List.mem_cons_self ..)
    clear hp
    rw [h0]
    clear h0
    go_wp2_with fail
    exact ⟨Below.refl _ _, rfl, fun h => by simp at h⟩
  case o7 =>
    refine growOne_of (pre := [3, 6]) rfl ?_
    simp only [fillL, Region.dstOf, List.getElem?_toArray, List.getElem?_cons_zero, List.getElem?_cons_succ, Option.bind_some, Act.put]
    intro f w' hb hp
    have h0 : f 3 = .slice Ak ps.length ck := hp 3 (by decide)
    have h1 : f 6 = .int .i64 (min ps.length 20 : Nat) := hp 6 (by decide)
    clear hp
    rw [h0, h1]
    clear h0 h1 hmin HM
    generalize min ps.length 20 = mm at *
    go_wp2_with fail
    exact ⟨Below.refl _ _, rfl, fun h => by simp at h⟩
  case fin =>
    intro f w1 hb hd _
    have e0 : f 0 = .slice A L.length c := hd 0 (by decide)
    obtain ⟨vs1, ho, hrs⟩ : ∃ vs, w1.ownsRow w.heap.size 34 1 (f 1) (cutL 30 L).length vs ∧ OwnRs w1 w.heap.size vs (cutL 30 L) := hd 1 (by decide)
    obtain ⟨g2, e2, ho2⟩ : ∃ g, f 2 = .slice (some ⟨g, 0, none⟩) 0 0 ∧ w1.ownsRow w.heap.size 3 1 (f 2) 0 [] := hd 2 (by decide)
    have e3 : f 3 = .slice Ak ps.length ck := hd 3 (by decide)
    have e4 : f 4 = .slice Ak ps.length ck := hd 4 (by decide)
    have e5 : f 5 = .int .i64 (ps.length : Nat) := hd 5 (by decide)
    have e6 : f 6 = .int .i64 (min ps.length 20 : Nat) := hd 6 (by decide)
    have e7 : f 7 = .slice Ak (min ps.length 20) ck := hd 7 (by decide)
    clear hd
    obtain ⟨A1, c1, e1, hl1⟩ := OutR.lreads ⟨vs1, ho, hrs⟩
    have hcap := own_cap (e1 ▸ ho)
    rw [show List.range 8 = [0, 1, 2, 3, 4, 5, 6, 7] from rfl]
    simp only [fillL, Region.dstOf, List.getElem?_toArray, List.getElem?_cons_zero, List.getElem?_cons_succ, Option.bind_some, Act.put]
    rw [e2] at ho2
    rw [e0, e1, e2, e3, e4, e5, e6, e7]
    have HR1 := Lib.hid ((HA.out.2.2.below hb hb.size).take 20).reads
    rw [HT.out] at HR1
    have HO2 := Lib.hid ho2
    have HX := Lib.hid (And.intro hl1 (And.intro hb hcap))
    have hsz := hb.size
    clear e0 e1 e2 e3 e4 e5 e6 e7 hb ho hrs ho2 hl1 hcap HM hmin
    go_frame
    refine wpList_append_fresh rfl (.tmp 14) (.tmp 19) 52 rfl w.heap.size 3 i0 (.int .i64 0) 1 8 Tryz.underlying52 hi hz0 hz1 hz2 rfl g2 rfl HO2.out w1.heap.size Ak (min ps.length 20) ck (icells (ps.take 20)) rfl HR1.out ?c2 ?c3 ?c4 ?_
    case c2 => unfold maxLen; omega
    case c3 => omega
    case c4 => exact hsz
    intro v2 w2 ho2 hbn
    have hb2 : Below w.heap.size w w2 := thn HX.out.2.1 hbn
    rw [← HT.out] at ho2
    obtain ⟨A2, c2, rfl, hk2, hc2⟩ := own_ireads ho2
    have B2 := Lib.hid hb2
    have hcl := cutL_len 30 L
    have hkl2 : (ps.take 20).length ≤ 20 := by rw [List.length_take]; omega
    have S := Lib.hid (And.intro (HX.out.1.below hbn hbn.size) (And.intro hk2 (HG.out.thn hb2)))
    have HI : Hid (InL (cutL 30 L) ∧ (∀ r ∈ cutL 30 L, r.length ≤ 18) ∧ (cutL 30 L).length ≤ c1 ∧ (ps.take 20).length ≤ c2) := ⟨HF.out.cutL, cutL_rows, HX.out.2.2, hc2⟩
    clear ho2 hbn hb2 hk2 hc2 HX HO2 HR1 HT HA HF HG hsz hmc hkc hi hz0 hz1 hz2 i0
    generalize cutL 30 L = a at *
    generalize ps.take 20 = k at *
    go_wp2_with fail
    refine (Groups_law A1 c1 a A2 c2 k w2 S.out.1 HI.out.1 S.out.2.1 (by omega)).mono ?_
    rintro e w3 ⟨Ao, no, co, rfl, hn, hn', hb⟩
    have N1 := Lib.hid (And.intro hn (And.intro hn' hb))
    clear hn hn' hb
    have hpe : (pK k).map (·.1) = k := pK_fst k
    have HPE : Hid (∀ b, placesB a k = b → chkR [a] = 0 → ordE a (pK k) = if b then 0 else 1) := fun b hb hz => by
      cases b
      · exact ordE_none hz (by rw [hpe]; exact hb)
      · exact ordE_place hz (by rw [hpe]; exact hb)
    have HPB : Hid (chkR [a] ≠ 0 → ordE a (pK k) = chkR [a]) := ordE_bad
    have HGM := Lib.hid (fun Gi (h : Gi ∈ groupsR (natP k) a) => groups_mem h)
    have hGl : (groupsR (natP k) a).length ≤ a.length := by
      show ((headsR (natP k) a).map _).length ≤ _
      rw [List.length_map, headsR]
      exact Nat.le_trans (ddR_len _) (by rw [srtC_len, List.length_map, srtC_len]; exact Nat.le_refl _)
    have HRG := Lib.hid (RGroups_any A1 A2 c1 c2 a k)
    have HGL := Lib.hid hGl
    clear hpe hGl
    generalize ordE a (pK k) = q at *
    generalize groupsR (natP k) a = G1 at *
    go_wp2_with fail
    refine (RList_any A1 none c1 0 a [] w3 (S.out.1.below N1.out.2.2 N1.out.2.2.size) (LReads.nil_ _ _ _) HI.out.1.fit ⟨by simp, fun r h => by simp at h⟩).mono ?_
    rintro e w5 ⟨rfl, hb⟩
    have B5 := Lib.hid (And.intro (thn N1.out.2.2 hb) hb)
    clear hb
    rw [chkR_nil]
    by_cases hz : chkR [a] = 0
    · have hfa := Lib.hid (fine_of hz (L := a) (by simp) HI.out.1)
      have HZ := Lib.hid hz
      rw [hz]
      go_wp2_with fail
      refine (RPlaces_any A1 A2 c1 c2 a k w5 (S.out.1.below B5.out.1 B5.out.1.size) (S.out.2.1.below B5.out.1 B5.out.1.size) (by omega) (fun r h => by have := hfa.out.2.2 r h; unfold maxLen; omega) (by omega)).mono ?_
      rintro e w6 ⟨rfl, hb⟩
      have B6 := Lib.hid (And.intro (thn B5.out.1 hb) (thn B5.out.2 hb))
      clear hb B5 hz
      cases hpb : placesB a k
      · have eo := HPE.out _ hpb HZ.out
        simp only [Bool.false_eq_true, if_false] at eo
        have en := N1.out.2.1 (by omega)
        subst en
        subst eo
        clear hpb
        go_wp2_with fail
        refine (awake_any w6 (S.out.2.2.thn B6.out.1)).mono ?_
        rintro e w12 ⟨rfl, hb⟩
        have B12 := Lib.hid (thn B2.out (thn B6.out.1 hb))
        clear hb
        go_wp2_with fail
        go_ret
        exact ⟨rfl, B12.out⟩
      · have eo := HPE.out _ hpb HZ.out
        simp only [if_true] at eo
        obtain ⟨en, hl⟩ := N1.out.1 eo
        have HL := Lib.hid hl
        have HPT := Lib.hid hpb
        subst eo
        subst en
        clear hpb hl
        go_wp2_with fail
        refine (HRG.out w6 (S.out.1.below B6.out.1 B6.out.1.size) (fun r h => ⟨by have := hfa.out.2.2 r h; omega, fun v hv => ((HI.out.1.2 r h).2 v hv).1⟩) HI.out.2.2.1 (by omega) (S.out.2.1.below B6.out.1 B6.out.1.size) (by omega) HPT.out).mono ?_
        rintro e w7 ⟨A7, c7, rfl, hl, hb⟩
        have B7 := Lib.hid (And.intro (thn B6.out.1 hb) (And.intro (HL.out.below (thn B6.out.2 hb) (thn B6.out.2 hb).size) hl))
        have hG30 : G1.length ≤ 30 := Nat.le_trans HGL.out hcl
        clear hl hb
        go_wp2_with fail
        go_loopw [11] (fun i wr => ∃ j : Nat, j ≤ G1.length ∧ i = .int .i64 j ∧ Hid (Below w7.heap.size w7 wr)) (fun i _ => G1.length - (intOf i).toNat)
        case atStart => exact ⟨0, Nat.zero_le _, rfl, Below.refl _ _⟩
        case round =>
          obtain ⟨j, hj, rfl, HB⟩ := hrel
          by_cases hlt : j < G1.length
          · have hg1 := B7.out.2.1.below HB.out HB.out.size
            have hg2 := B7.out.2.2.below HB.out HB.out.size
            obtain ⟨b1, o1, Ar, cr, rfl, hblk, hcell, hv⟩ := hg1.at_ hlt
            obtain ⟨b2, o2, Aq, cq, rfl, hblk2, hcell2, hv2⟩ := hg2.at_ hlt
            have hm := HGM.out G1[j] (List.getElem_mem hlt)
            have HX : Hid (∀ x : Aft wr, Calls Tryz.prog 27 #[.slice Ar G1[j].length cr, .slice Aq G1[j].length cq] x.w fun e w' => e = .returned (.bool true) ∧ Below x.w.heap.size x.w w') := fun x => REqual_same Ar Aq cr cq G1[j] x.w (hv.below x.h x.h.size) (hv2.below x.h x.h.size) ⟨by have := HI.out.1.1; omega, fun r hr => HI.out.1.2 r (hm.1 r hr)⟩
            have X3 : ∀ x : Aft wr, x.w.cell? ⟨b1, o1 + j, none⟩ = some (.slice Ar G1[j].length cr) := fun x => (x.h.cell (p := ⟨b1, _, none⟩) hblk).trans hcell
            have X4 : ∀ x : Aft wr, x.w.cell? ⟨b2, o2 + j, none⟩ = some (.slice Aq G1[j].length cq) := fun x => (x.h.cell (p := ⟨b2, _, none⟩) hblk2).trans hcell2
            have hji : (j : Int) < (G1.length : Int) := by omega
            clear hg1 hg2 hcell hcell2 hv hv2 hm
            go_wp2_with fail
            refine region_aft (by kernel_rfl) (by kernel_rfl) ?_
            repeat (go_big_quiet_step ((exact aft_call (HX.out _))))
            refine wpQuiet_nil ?_
            intro x9
            have W9 := Lib.hid (thn HB.out x9.h)
            clear X3 X4 HX
            go_wp2_with fail
            go_roundw
            case rel => exact ⟨j + 1, by omega, by go_num, W9⟩
            case measure => simp [intOf]; omega
          · have hjn : decide ((j : Int) < (G1.length : Int)) = false := by simp; omega
            have hje : j = G1.length := by omega
            subst hje
            go_wp2_with fail
            refine (awake_any wr (S.out.2.2.thn (thn B7.out.1 HB.out))).mono ?_
            rintro e w12 ⟨rfl, hb⟩
            have B12 := Lib.hid (thn B2.out (thn (thn B7.out.1 HB.out) hb))
            clear hb
            go_wp2_with fail
            go_ret
            exact ⟨rfl, B12.out⟩
    · have eo := HPB.out hz
      have en := N1.out.2.1 (by rw [eo]; exact hz)
      subst en
      subst eo
      have hz1' : (chkR [a] == 0) = false := by simp [hz]
      have hz2' : (chkR [a] != 0) = true := by simp [hz]
      have hz3 : (chkR [a] == chkR [a]) = true := by simp
      generalize chkR [a] = k3 at *
      clear hz
      go_wp2_with fail
      refine (awake_any w5 (S.out.2.2.thn B5.out.1)).mono ?_
      rintro e w12 ⟨rfl, hb⟩
      have B12 := Lib.hid (thn B2.out (thn B5.out.1 hb))
      clear hb
      go_wp2_with fail
      go_ret
      exact ⟨rfl, B12.out⟩
end Go.Proofs.YtapnnheggjahlaaGreatDoor
