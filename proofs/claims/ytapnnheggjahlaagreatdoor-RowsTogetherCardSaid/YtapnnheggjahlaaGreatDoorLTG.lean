/-
  THE WALK of RowsTogether.
-/
import Derived.Test.YtapnnheggjahlaaGreatDoorNice
import Derived.Test.YtapnnheggjahlaaGreatDoorLRD
namespace Go.Proofs.YtapnnheggjahlaaGreatDoor
open Go.RowKit

/-- what the rotation's operations hold -/
def dRot (A : Option Addr) (n c k : Nat) (S1 S2 : List (List V)) (W : World) : Nat → Value → World → Prop
  | 0, v, w => EmpAt 34 1 W v w
  | 1, v, _ => v = .slice A n c
  | 2, v, _ => v = .int .i64 (k : Nat)
  | 3, v, w => ∃ Ad cd, v = .slice Ad S1.length cd ∧ LReads w W.heap.size Ad S1 ∧ W.heap.size ≤ w.heap.size
  | 4, v, w => ∃ vs, w.ownsRow W.heap.size 34 1 v S1.length vs ∧ RowsR w W.heap.size vs S1 ∧ W.heap.size ≤ w.heap.size
  | 5, v, _ => v = .slice A n c
  | 6, v, _ => v = .int .i64 (k : Nat)
  | _, v, w => ∃ Ad cd, v = .slice Ad S2.length cd ∧ LReads w W.heap.size Ad S2 ∧ W.heap.size ≤ w.heap.size
theorem dRot_below {A : Option Addr} {n c k : Nat} {S1 S2 : List (List V)} {W : World} (i : Nat) (v : Value) (w1 w2 : World) (hb : Below w1.heap.size w1 w2) (h : dRot A n c k S1 S2 W i v w1) : dRot A n c k S1 S2 W i v w2 := by
  unfold dRot at h ⊢
  split at h
  · exact h.below hb
  · exact h
  · exact h
  · obtain ⟨Ad, cd, h1, h2, h3⟩ := h; exact ⟨Ad, cd, h1, h2.below (hb.mono h3) (Nat.le_refl _), Nat.le_trans h3 hb.size⟩
  · obtain ⟨vs, h1, h2, h3⟩ := h; exact ⟨vs, own_below h1 hb, h2.below (hb.mono h3), Nat.le_trans h3 hb.size⟩
  · exact h
  · exact h
  · obtain ⟨Ad, cd, h1, h2, h3⟩ := h; exact ⟨Ad, cd, h1, h2.below (hb.mono h3) (Nat.le_refl _), Nat.le_trans h3 hb.size⟩

set_option maxHeartbeats 8000000 in
set_option maxRecDepth 100000 in
theorem RowsTogether_any (A A' : Option Addr) (c c' : Nat) (L L2 : List (List V)) (f : Int) (all : Bool) (w : World) (hG : G w) (hl : LReads0 w w.heap.size A L) (hl2 : LReads0 w w.heap.size A' L2) (hL : InL L) (hL2 : InL L2) (hf : 0 ≤ f) (hf2 : f ≤ 255) :
    Calls Tryz.prog 10 #[.slice A L.length c, .slice A' L2.length c', .int .u8 f, .bool all] w fun e w' => e = .returned (.bool true) ∧ Below w.heap.size w w' := by
  have HF := Lib.hid (And.intro hL hL2)
  have H0 := Lib.hid (And.intro hG (And.intro hl hl2))
  clear hG hl hl2 hL hL2
  go_enter Tryz.func10, Tryz.ntmps10
  go_wp2_with fail
  refine (some_any A c L 14 w H0.out.2.1 HF.out.1 (by omega)).mono ?_
  rintro e w1 ⟨A1, c1, a, rfl, -, hn, hc, hl, hb⟩
  have S1 := Lib.hid (And.intro (H0.out.1.thn hb) (And.intro (H0.out.2.2.below hb hb.size) (And.intro (thn (Below.refl w.heap.size w) hb) (hl))))
  have Na := Lib.hid (And.intro hn hc)
  clear hn hc hl hb
  go_wp2_with fail
  refine (some_any A' c' L2 14 w1 S1.out.2.1 HF.out.2 (by omega)).mono ?_
  rintro e w2 ⟨A2, c2, b, rfl, -, hn, hc, hl, hb⟩
  have S2 := Lib.hid (And.intro (S1.out.1.thn hb) (And.intro (thn S1.out.2.2.1 hb) (And.intro (S1.out.2.2.2.below hb hb.size) (hl))))
  have Nb := Lib.hid (And.intro hn hc)
  clear hn hc hl hb H0 HF S1
  go_upto_if 40 with fail
  go_cut [11] (fun s wx => (∃ k : Nat, s = .int .i64 k ∧ k ≤ a.length) ∧ wx = w2)
  case first =>
    by_cases hp : 0 < a.length
    · have hpi : (0 : Int) < (a.length : Int) := by omega
      have hm1 := Int.emod_nonneg f (by omega : (a.length : Int) ≠ 0)
      have hm2 := Int.emod_lt_of_pos f hpi
      have hm3 : f.tmod (a.length : Int) = f % (a.length : Int) := Int.tmod_eq_emod_of_nonneg hf
      have hm4 : ((f % (a.length : Int)).toNat : Int) = f % (a.length : Int) := Int.toNat_of_nonneg hm1
      go_wp2_with fail
      go_meet
      case rel => exact ⟨⟨(f % (a.length : Int)).toNat, by rw [hm4], by omega⟩, rfl⟩
    · have hz : a.length = 0 := by omega
      go_wp2_with fail
      go_meet
      case rel => exact ⟨⟨0, rfl, Nat.zero_le _⟩, rfl⟩
  case rest =>
    obtain ⟨⟨k, rfl, hk⟩, rfl⟩ := hcut
    obtain ⟨i0, hi, hz0, hz1, hz2⟩ := info_parts infoR
    have hcap : a.length ≤ c1 := Na.out.2
    have hki : (k : Int) ≤ (a.length : Int) := by omega
    have hk0 : (0 : Int) ≤ (k : Int) := by omega
    have hkc : (k : Int) ≤ (c1 : Int) := by omega
    have HA := Lib.hid (And.intro S2.out.2.2.1 (And.intro S2.out.2.2.2 Na.out))
    have h1l : (a.drop k).length = a.length - k := List.length_drop
    have h2l : (a.take k).length = k := by rw [List.length_take]; omega
    have HL := Lib.hid (And.intro h1l h2l)
    clear h1l h2l
    go_wp2_with fail
    refine wp_region_grow (W := wc) 8 [[], [], [], [1, 2], [0, 3], [], [], [5, 6]] [] (dRot A1 a.length c1 k (a.drop k) (a.take k) wc) (by kernel_rfl) (by kernel_rfl) dRot_below ⟨?o0, ?o1, ?o2, ?o3, ?o4, ?o5, ?o6, ?o7, trivial⟩ ?fin
    case o0 =>
      refine growOne_of (pre := []) rfl ?_
      simp only [fillL, Act.put]
      intro f w' hb hp
      clear hp
      have HB := Lib.hid hb
      clear hb
      go_wp2_with fail
      exact ⟨al (Below.refl _ _) _, ⟨_, rfl, own_weaker (own_empty w' 34 1) HB.out.size⟩, fun h => by simp at h⟩
    case o1 =>
      refine growOne_of (pre := []) rfl ?_
      simp only [fillL, Act.put]
      intro f w' hb hp
      clear hp
      go_wp2_with fail
      exact ⟨Below.refl _ _, rfl, fun h => by simp at h⟩
    case o2 =>
      refine growOne_of (pre := []) rfl ?_
      simp only [fillL, Act.put]
      intro f w' hb hp
      clear hp
      go_wp2_with fail
      exact ⟨Below.refl _ _, rfl, fun h => by simp at h⟩
    case o3 =>
      refine growOne_of (pre := [1, 2]) rfl ?_
      simp only [fillL, Region.dstOf, List.getElem?_toArray, List.getElem?_cons_zero, List.getElem?_cons_succ, Option.bind_some, Act.put]
      intro f w' hb hp
      have h0 : f 1 = .slice A1 a.length c1 := hp 1 (by decide)
      have h1 : f 2 = .int .i64 (k : Nat) := hp 2 (by decide)
      clear hp
      rw [h0, h1]
      have HB := Lib.hid (And.intro hb (HA.out.1.below hb (Nat.le_refl _)))
      clear h0 h1 hb
      by_cases he : c1 = k
      · go_wp2_with fail
        exact ⟨Below.refl _ _, ⟨_, _, by rw [HL.out.1], fun h0 => absurd h0 (by rw [HL.out.1]; omega), HB.out.1.size⟩, fun h => by simp at h⟩
      · have hd3 : LReads w' wc.heap.size (A1.map fun x => x.add k) (a.drop k) := by
          intro h0
          obtain ⟨ba, oa, rfl, -⟩ := HB.out.2 (by rw [HL.out.1] at h0; omega)
          rw [Option.map_some, addN]
          exact HB.out.2.drop k h0
        have HD3 := Lib.hid hd3
        clear hd3
        go_wp2_with fail
        exact ⟨Below.refl _ _, ⟨_, _, by rw [HL.out.1], HD3.out, HB.out.1.size⟩, fun h => by simp at h⟩
    case o4 =>
      refine growOne_of (pre := [0, 3]) rfl ?_
      simp only [fillL, Region.dstOf, List.getElem?_toArray, List.getElem?_cons_zero, List.getElem?_cons_succ, Option.bind_some, Act.put]
      intro f w' hb hp
      obtain ⟨g0, h0, ho0⟩ : ∃ g, f 0 = .slice (some ⟨g, 0, none⟩) 0 0 ∧ w'.ownsRow wc.heap.size 34 1 (f 0) 0 [] := hp 0 (by decide)
      obtain ⟨Ad, cd, h3, hl3, hw3⟩ : ∃ Ad cd, f 3 = .slice Ad (a.drop k).length cd ∧ LReads w' wc.heap.size Ad (a.drop k) ∧ wc.heap.size ≤ w'.heap.size := hp 3 (by decide)
      clear hp
      rw [h0] at ho0
      rw [h0, h3]
      obtain ⟨vs, hrd, hRR⟩ := hl3.hdr
      have HB := Lib.hid (And.intro hRR hw3)
      have hna := Na.out.1.1
      have hdl := HL.out.1
      have hsz := hb.size
      clear hb h0 h3 hRR hl3 hw3
      go_frame
      refine wpList_append_fresh rfl (.tmp 46) (.tmp 49) 23 rfl wc.heap.size 34 i0 (.slice none 0 0) 1 24 Tryz.underlying23 hi hz0 hz1 hz2 rfl g0 rfl ho0 wc.heap.size Ad (a.drop k).length cd vs rfl hrd ?c2 ?c3 ?c4 ?_
      case c2 => unfold maxLen; omega
      case c3 => omega
      case c4 => exact hsz
      intro v4 w4 ho4 hb4
      have HO : Hid (growPost (dRot A1 a.length c1 k (a.drop k) (a.take k) wc) [] 4 w' w4 v4) := ⟨hb4, ⟨vs, ho4, HB.out.1.below (hb4.mono HB.out.2), Nat.le_trans HB.out.2 hb4.size⟩, fun h => by simp at h⟩
      clear ho4 hb4 hrd ho0 hna hdl hsz
      go_wp2_with fail
      exact HO.out
    case o5 =>
      refine growOne_of (pre := []) rfl ?_
      simp only [fillL, Act.put]
      intro f w' hb hp
      clear hp
      go_wp2_with fail
      exact ⟨Below.refl _ _, rfl, fun h => by simp at h⟩
    case o6 =>
      refine growOne_of (pre := []) rfl ?_
      simp only [fillL, Act.put]
      intro f w' hb hp
      clear hp
      go_wp2_with fail
      exact ⟨Below.refl _ _, rfl, fun h => by simp at h⟩
    case o7 =>
      refine growOne_of (pre := [5, 6]) rfl ?_
      simp only [fillL, Region.dstOf, List.getElem?_toArray, List.getElem?_cons_zero, List.getElem?_cons_succ, Option.bind_some, Act.put]
      intro f w' hb hp
      have h0 : f 5 = .slice A1 a.length c1 := hp 5 (by decide)
      have h1 : f 6 = .int .i64 (k : Nat) := hp 6 (by decide)
      clear hp
      rw [h0, h1]
      have hd3 : LReads w' wc.heap.size A1 (a.take k) := by
        intro h9
        have hr := HA.out.1.below hb (Nat.le_refl _)
        obtain ⟨ba, oa, rfl, -⟩ := hr (by rw [HL.out.2] at h9; omega)
        exact hr.take k h9
      have HD3 := Lib.hid (And.intro hd3 hb)
      clear h0 h1 hb hd3
      go_wp2_with fail
      exact ⟨Below.refl _ _, ⟨_, _, by rw [HL.out.2], HD3.out.1, HD3.out.2.size⟩, fun h => by simp at h⟩
    case fin =>
      intro f w5 hb hd _
      have e1 : f 1 = .slice A1 a.length c1 := hd 1 (by decide)
      have e2 : f 2 = .int .i64 (k : Nat) := hd 2 (by decide)
      obtain ⟨g0, e0, -⟩ : ∃ g, f 0 = .slice (some ⟨g, 0, none⟩) 0 0 ∧ w5.ownsRow wc.heap.size 34 1 (f 0) 0 [] := hd 0 (by decide)
      obtain ⟨Ad, cd, e3, -⟩ : ∃ Ad cd, f 3 = .slice Ad (a.drop k).length cd ∧ LReads w5 wc.heap.size Ad (a.drop k) ∧ wc.heap.size ≤ w5.heap.size := hd 3 (by decide)
      obtain ⟨vs, ho4, hR4, -⟩ : ∃ vs, w5.ownsRow wc.heap.size 34 1 (f 4) (a.drop k).length vs ∧ RowsR w5 wc.heap.size vs (a.drop k) ∧ wc.heap.size ≤ w5.heap.size := hd 4 (by decide)
      have e5 : f 5 = .slice A1 a.length c1 := hd 5 (by decide)
      have e6 : f 6 = .int .i64 (k : Nat) := hd 6 (by decide)
      obtain ⟨A7, c7, e7, hl7, -⟩ : ∃ Ad cd, f 7 = .slice Ad (a.take k).length cd ∧ LReads w5 wc.heap.size Ad (a.take k) ∧ wc.heap.size ≤ w5.heap.size := hd 7 (by decide)
      clear hd
      obtain ⟨A4, c4, e4⟩ := own_slice ho4
      obtain ⟨vs7, hrd, hRR⟩ := hl7.hdr
      rw [e4] at ho4
      rw [show List.range 8 = [0, 1, 2, 3, 4, 5, 6, 7] from rfl]
      simp only [fillL, Region.dstOf, List.getElem?_toArray, List.getElem?_cons_zero, List.getElem?_cons_succ, Option.bind_some, Act.put]
      rw [e0, e1, e2, e3, e4, e5, e6, e7]
      have HB := Lib.hid (And.intro hb (And.intro hR4 (And.intro hRR ho4)))
      have hna := Na.out.1.1
      have hdl := HL.out.1
      have htl := HL.out.2
      have hsz := hb.size
      clear e0 e1 e2 e3 e4 e5 e6 e7 hb hR4 hRR hl7 ho4
      go_frame
      refine wpList_append_any _ rfl (.tmp 50) (.tmp 53) 23 rfl wc.heap.size 34 i0 (.slice none 0 0) 1 24 Tryz.underlying23 hi hz0 hz1 hz2 rfl (by decide) (.slice A4 (a.drop k).length c4) (a.drop k).length vs rfl HB.out.2.2.2 wc.heap.size A7 (a.take k).length c7 vs7 rfl hrd HB.out.2.2.1.cell1 ?c2 ?c3 ?c4 ?_
      case c2 => unfold maxLen; omega
      case c3 => omega
      case c4 => exact hsz
      intro v6 w6 ho6 hgr6 _
      have hlen6 : (a.drop k).length + (a.take k).length = (a.drop k ++ a.take k).length := List.length_append.symm
      have hb6 : Below wc.heap.size wc w6 := HB.out.1.grown hgr6 hsz (own_base HB.out.2.2.2)
      have hR6 : RowsR w6 wc.heap.size (vs ++ vs7) (a.drop k ++ a.take k) := (HB.out.2.1.app HB.out.2.2.1).grown hgr6 hsz (own_base HB.out.2.2.2)
      rw [hlen6] at ho6
      obtain ⟨A3, c3, rfl, hl⟩ := own_lreads ho6 hR6 hb6.size
      have hb := hb6
      have S3 := Lib.hid (And.intro (S2.out.1.thn hb) (And.intro (thn S2.out.2.1 hb) (And.intro (S2.out.2.2.1.below hb hb.size) (And.intro (S2.out.2.2.2.below hb hb.size) (hl)))))
      have HO : Hid (NiceL 14 (a.drop k ++ a.take k) ∧ canon (a.drop k ++ a.take k) = canon a) := ⟨Na.out.1.mono (by rw [← hlen6]; omega) fun r hr => (List.mem_append.1 hr).elim List.mem_of_mem_drop List.mem_of_mem_take, canon_rot a k⟩
      clear hlen6 hb6 hR6 ho6 hgr6 hl hb hrd hna hdl htl hsz HL HA HB
      generalize a.drop k ++ a.take k = o at *
      go_wp2_with fail
      refine (Canonical_nice A1 c1 14 a w6 S3.out.2.2.1 Na.out.1 (by omega)).mono ?_
      rintro e w7 ⟨Ap, cp, rfl, hl, hb⟩
      have S4 := Lib.hid (And.intro (S3.out.1.thn hb) (And.intro (thn S3.out.2.1 hb) (And.intro (S3.out.2.2.1.below hb hb.size) (And.intro (S3.out.2.2.2.1.below hb hb.size) (And.intro (S3.out.2.2.2.2.below hb hb.size) (hl))))))
      clear hl hb
      go_wp2_with fail
      have q := Canonical_nice A3 c3 14 o w7 S4.out.2.2.2.2.1 HO.out.1 (by omega)
      rw [HO.out.2] at q
      refine q.mono ?_
      clear q
      rintro e w8 ⟨Aq, cq, rfl, hl, hb⟩
      have S5 := Lib.hid (And.intro (S4.out.1.thn hb) (And.intro (thn S4.out.2.1 hb) (And.intro (S4.out.2.2.1.below hb hb.size) (And.intro (S4.out.2.2.2.1.below hb hb.size) (And.intro (S4.out.2.2.2.2.2.below hb hb.size) (hl))))))
      clear hl hb HO
      have Np := Lib.hid Na.out.1.canon
      have HP := Lib.hid (And.intro (srtC_len (c := cmpR) a) (And.intro (wantR_canon all a) (And.intro (both_minus_canon all a b) (both_minus_len all a b))))
      go_wp2_with fail
      refine (Same_nice A1 A2 c1 c2 14 14 a b w8 S5.out.1 S5.out.2.2.1 S5.out.2.2.2.1 Na.out.1 Nb.out.1 (by omega) (by omega)).mono ?_
      rintro e w9 ⟨rfl, hb⟩
      have S6 := Lib.hid (And.intro (S5.out.1.thn hb) (And.intro (thn S5.out.2.1 hb) (And.intro (S5.out.2.2.1.below hb hb.size) (And.intro (S5.out.2.2.2.1.below hb hb.size) (And.intro (S5.out.2.2.2.2.1.below hb hb.size) (S5.out.2.2.2.2.2.below hb hb.size))))))
      clear hb
      have HW : Hid (wantR all a = if all then canon a else ddR (canon a)) := rfl
      have HS : Hid (∀ al : Bool, (al = true ↔ a.length = b.length ∧ ∀ x ∈ a, a.count x = b.count x) → al = decide (canon a = canon b)) := Lib.hid fun al h => by
        rw [Bool.eq_iff_iff, h, alike_iff, decide_eq_true_iff]
      generalize decide (canon a = canon b) = s at *
      have hpb : (((canon a).length : Int) != (a.length : Int)) = false := by rw [HP.out.1]; simp
      have HPD0 := Lib.hid (rfl : ddR (canon a) = ddR (canon a))
      generalize hcp : canon a = p at *
      have HPD : Hid (ddR (canon a) = ddR p) := Lib.hid (by rw [hcp])
      clear hcp HPD0
      go_wp2_with fail
      refine (REqual_nice Ap Aq cp cq 14 14 p p w9 S6.out.2.2.2.2.1 S6.out.2.2.2.2.2 Np.out Np.out (by omega)).mono ?_
      rintro e w10 ⟨rfl, hb⟩
      have S7 := Lib.hid (And.intro (S6.out.1.thn hb) (And.intro (thn S6.out.2.1 hb) (And.intro (S6.out.2.2.1.below hb hb.size) (And.intro (S6.out.2.2.2.1.below hb hb.size) (S6.out.2.2.2.2.1.below hb hb.size)))))
      clear hb
      have hpp : decide (p = p) = true := by simp
      have hna14 := Na.out.1.1
      have hal0 : ((a.length : Int) == (b.length : Int)) = decide (a.length = b.length) := by
        rw [Bool.eq_iff_iff, beq_iff_eq, decide_eq_true_iff]; omega
      go_wp2_with fail
      go_loopw [19, 20] (fun v i wr => ∃ (j : Nat) (lk : Bool), j ≤ a.length ∧ v = .bool lk ∧ i = .int .i64 j ∧ Hid (lk = true ↔ a.length = b.length ∧ ∀ x ∈ a.take j, a.count x = b.count x) ∧ Hid (Below w10.heap.size w10 wr)) (fun _ i _ => a.length - (intOf i).toNat)
      case atStart => exact ⟨0, decide (a.length = b.length), Nat.zero_le _, by rw [← hal0], rfl, Lib.hid (by simp), Below.refl _ _⟩
      case round =>
        obtain ⟨j, lk, hj, rfl, rfl, HAL, HB⟩ := hrel
        by_cases hlt : j < a.length
        · have hla := (S7.out.2.2.1.below HB.out HB.out.size)
          obtain ⟨ba, oa, Ar, cr, rfl, hblk, hcell, hpl, hv⟩ := hla.at_ hlt
          have HV := Lib.hid (And.intro hpl (And.intro hv (And.intro hla (And.intro (S7.out.2.2.2.1.below HB.out HB.out.size) (S7.out.1.thn HB.out)))))
          have N1 := Lib.hid (Na.out.1.one (List.getElem_mem hlt))
          have HE : Hid (∀ na nb : Nat, a.count a[j] = na → b.count a[j] = nb → (((lk && ((na : Int) == (nb : Int))) = true) ↔ a.length = b.length ∧ ∀ x ∈ a.take (j + 1), a.count x = b.count x)) := Lib.hid fun na nb h1 h2 => by
            rw [List.take_succ_eq_append_getElem hlt, Bool.and_eq_true, HAL.out, beq_iff_eq]
            constructor
            · rintro ⟨⟨h3, h4⟩, h5⟩
              refine ⟨h3, fun x hx => ?_⟩
              rcases List.mem_append.1 hx with h | h
              · exact h4 x h
              · rw [List.mem_singleton.1 h, h1, h2]; omega
            · rintro ⟨h3, h4⟩
              refine ⟨⟨h3, fun x hx => h4 x (List.mem_append.2 (.inl hx))⟩, ?_⟩
              have := h4 a[j] (List.mem_append.2 (.inr (List.mem_singleton.2 rfl)))
              rw [h1, h2] at this; omega
          have hji : (j : Int) < (a.length : Int) := by omega
          clear hla hpl hv
          go_wp2_with fail
          refine (Times_nice (some ⟨ba, oa, none⟩) Ar c1 cr 14 a a[j] wr HV.out.2.2.2.2 HV.out.2.2.1 HV.out.1 HV.out.2.1 Na.out.1 N1.out (by omega)).mono ?_
          rintro e wa ⟨rfl, hb⟩
          have hca := (hb.cell (p := ⟨ba, _, none⟩) hblk).trans hcell
          have HV2 := Lib.hid (And.intro (HV.out.2.1.below hb hb.size) (And.intro (HV.out.2.2.2.1.below hb hb.size) (And.intro (HV.out.2.2.2.2.thn hb) (thn HB.out hb))))
          clear hcell hb
          go_wp2_with fail
          refine (Times_nice A2 Ar c2 cr 14 b a[j] wa HV2.out.2.2.1 HV2.out.2.1 HV.out.1 HV2.out.1 Nb.out.1 N1.out (by omega)).mono ?_
          rintro e wb ⟨rfl, hb⟩
          have HB3 := Lib.hid (thn HV2.out.2.2.2 hb)
          have HE2 := Lib.hid (HE.out _ _ rfl rfl)
          clear hca hb HE HV HV2
          generalize a.count a[j] = na at *
          generalize b.count a[j] = nb at *
          clear N1
          cases lk
          · go_wp2_with fail
            go_roundw
            case rel => exact ⟨j + 1, false, by omega, rfl, by go_num, Lib.hid (by simpa using HE2.out), HB3⟩
            case measure => simp [intOf]; omega
          · generalize hbe : ((na : Int) == (nb : Int)) = be at *
            go_wp2_with fail
            go_roundw
            case rel => exact ⟨j + 1, be, by omega, rfl, by go_num, Lib.hid (by simpa using HE2.out), HB3⟩
            case measure => simp [intOf]; omega
        · have hja : j = a.length := by omega
          have hjn : decide ((j : Int) < (a.length : Int)) = false := by simp; omega
          have hals := HS.out lk (by rw [HAL.out, List.take_of_length_le (by omega)])
          subst hals
          clear HAL HS hja
          have hb := HB.out
          have S8 := Lib.hid (And.intro (S7.out.1.thn hb) (And.intro (thn S7.out.2.1 hb) (And.intro (S7.out.2.2.1.below hb hb.size) (And.intro (S7.out.2.2.2.1.below hb hb.size) (S7.out.2.2.2.2.below hb hb.size)))))
          clear hb HB
          have hss : (lk != lk) = false := by simp
          go_wp2_with fail
          refine (Both_nice A1 A2 c1 c2 14 14 a b all wr S8.out.1 S8.out.2.2.1 S8.out.2.2.2.1 Na.out.1 Nb.out.1 (by omega) (by omega)).mono ?_
          rintro e w11 ⟨Ax, cx, rfl, hl, hb⟩
          have S9 := Lib.hid (And.intro (S8.out.1.thn hb) (And.intro (thn S8.out.2.1 hb) (And.intro (S8.out.2.2.1.below hb hb.size) (And.intro (S8.out.2.2.2.1.below hb hb.size) (And.intro (S8.out.2.2.2.2.below hb hb.size) (hl))))))
          clear hl hb
          go_wp2_with fail
          refine (Minus_nice A1 A2 c1 c2 14 14 a b all w11 S9.out.1 S9.out.2.2.1 S9.out.2.2.2.1 Na.out.1 Nb.out.1 (by omega) (by omega)).mono ?_
          rintro e w12 ⟨Ay, cy, rfl, hl, hb⟩
          have S10 := Lib.hid (And.intro (S9.out.1.thn hb) (And.intro (thn S9.out.2.1 hb) (And.intro (S9.out.2.2.1.below hb hb.size) (And.intro (S9.out.2.2.2.2.1.below hb hb.size) (And.intro (S9.out.2.2.2.2.2.below hb hb.size) (hl))))))
          clear hl hb
          have NXY : Hid (NiceL 14 (bothR all a b) ∧ NiceL 14 (minusR all a b)) := ⟨Na.out.1.mono (Nat.le_trans (bothR_len all a b) Na.out.1.1) fun r h => bothR_mem h, Na.out.1.mono (Nat.le_trans (minusR_len all a b) Na.out.1.1) fun r h => minusR_mem h⟩
          generalize bothR all a b = x at *
          generalize minusR all a b = y at *
          cases all
          · go_wp2_with fail
            have q := Distinct_nice A1 c1 14 a w12 S10.out.1 S10.out.2.2.1 Na.out.1 (by omega)
            rw [HPD.out] at q
            refine q.mono ?_
            clear q
            rintro e wn ⟨Ad, cd, rfl, hl, hb⟩
            have S11 := Lib.hid (And.intro (S10.out.1.thn hb) (And.intro (thn S10.out.2.1 hb) (And.intro (S10.out.2.2.1.below hb hb.size) (And.intro (S10.out.2.2.2.1.below hb hb.size) (And.intro (S10.out.2.2.2.2.1.below hb hb.size) (And.intro (S10.out.2.2.2.2.2.below hb hb.size) (hl)))))))
            clear hl hb
            have hwd : wantR false a = ddR p := HW.out
            have HQ : Hid (True ∧ canon (x ++ y) = ddR p ∧ x.length + y.length = (ddR p).length ∧ NiceL 14 (ddR p)) := ⟨trivial, by rw [← hwd]; exact HP.out.2.2.1, by rw [← hwd]; exact HP.out.2.2.2, Np.out.mono (Nat.le_trans (ddR_len p) Np.out.1) fun r h => ddR_mem h⟩
            clear HP HW hwd HPD
            generalize ddR p = d at *
            have hlw : ((x.length : Int) + (y.length : Int) != (d.length : Int)) = false := by
              have := HQ.out.2.2.1
              simp; omega
            obtain ⟨i0, hi, hz0, hz1, hz2⟩ := info_parts infoR
            obtain ⟨vx, hrx, hRx⟩ := S11.out.2.2.2.2.1.hdr
            have HX := Lib.hid (And.intro hrx hRx)
            have hx14 := NXY.out.1.1
            have hy14 := NXY.out.2.1
            clear hrx hRx
            go_wp2_with (at_builtin; refine wpList_append_fresh rfl (.tmp 180) (.tmp 181) 23 rfl wn.heap.size 34 i0 (.slice none 0 0) 1 24 Tryz.underlying23 hi hz0 hz1 hz2 rfl wn.heap.size rfl (own_empty wn 34 1) wn.heap.size Ax x.length cx vx rfl (HX.out.1.alloc (Nat.le_refl _) _) ?c2 ?c3 ?c4 ?_)
            case c2 => unfold maxLen; omega
            case c3 => omega
            case c4 => simp <;> omega
            intro v1 z1 ho1 hb1
            have hbz : Below wn.heap.size wn z1 := (al (Below.refl wn.heap.size wn) _).trans (hb1.mono (by simp <;> omega))
            obtain ⟨A5, c5, rfl⟩ := own_slice ho1
            obtain ⟨vy, hry, hRy⟩ := (S11.out.2.2.2.2.2.1.below hbz (Nat.le_refl _)).hdr
            have HY := Lib.hid (And.intro hry (And.intro hRy (And.intro ho1 (And.intro hbz (HX.out.2.below hbz)))))
            clear ho1 hb1 hbz hry hRy
            go_wp2_with (at_builtin; refine wpList_append_any _ rfl (.tmp 182) (.tmp 183) 23 rfl wn.heap.size 34 i0 (.slice none 0 0) 1 24 Tryz.underlying23 hi hz0 hz1 hz2 rfl (by decide) (.slice A5 x.length c5) x.length vx rfl HY.out.2.2.1 wn.heap.size Ay y.length cy vy rfl HY.out.1 HY.out.2.1.cell1 ?d2 ?d3 ?d4 ?_)
            case d2 => unfold maxLen; omega
            case d3 => omega
            case d4 => exact HY.out.2.2.2.1.size
            intro v2 z2 ho2 hgr2 _
            have hb : Below wn.heap.size wn z2 := HY.out.2.2.2.1.grown hgr2 HY.out.2.2.2.1.size (own_base HY.out.2.2.1)
            have hR2 : RowsR z2 wn.heap.size (vx ++ vy) (x ++ y) := (HY.out.2.2.2.2.app HY.out.2.1).grown hgr2 HY.out.2.2.2.1.size (own_base HY.out.2.2.1)
            have hlen2 : x.length + y.length = (x ++ y).length := List.length_append.symm
            rw [hlen2] at ho2
            obtain ⟨A6, c6, rfl, hl⟩ := own_lreads ho2 hR2 hb.size
            have NZ := Lib.hid (NXY.out.1.app NXY.out.2)
            have S12 := Lib.hid (And.intro (S11.out.1.thn hb) (And.intro (thn S11.out.2.1 hb) (And.intro (S11.out.2.2.1.below hb hb.size) (And.intro (S11.out.2.2.2.1.below hb hb.size) (And.intro (S11.out.2.2.2.2.2.2.below hb hb.size) (hl))))))
            clear hl hb hR2 ho2 hgr2 hlen2 HX HY NXY
            have HQ2 : Hid (canon (x ++ y) = d ∧ NiceL 14 d) := ⟨HQ.out.2.1, HQ.out.2.2.2⟩
            clear HQ hlw hx14 hy14
            generalize x ++ y = z at *
            go_wp2_with fail
            have q := Canonical_nice A6 c6 (14 + 14) z z2 S12.out.2.2.2.2.2 NZ.out (by omega)
            rw [HQ2.out.1] at q
            refine q.mono ?_
            clear q
            rintro e z3 ⟨A7, c7, rfl, hl, hb⟩
            have S13 := Lib.hid (And.intro (S12.out.1.thn hb) (And.intro (thn S12.out.2.1 hb) (And.intro (S12.out.2.2.1.below hb hb.size) (And.intro (S12.out.2.2.2.1.below hb hb.size) (And.intro (S12.out.2.2.2.2.1.below hb hb.size) (And.intro (S12.out.2.2.2.2.2.below hb hb.size) (hl)))))))
            clear hl hb
            have hww : decide (d = d) = true := by simp
            go_wp2_with fail
            refine (REqual_nice A7 Ad c7 cd 14 14 d d z3 S13.out.2.2.2.2.2.2 S13.out.2.2.2.2.1 HQ2.out.2 HQ2.out.2 (by omega)).mono ?_
            rintro e z4 ⟨rfl, hb⟩
            have S14 := Lib.hid (And.intro (S13.out.1.thn hb) (And.intro (thn S13.out.2.1 hb) (And.intro (S13.out.2.2.1.below hb hb.size) (And.intro (S13.out.2.2.2.1.below hb hb.size) (And.intro (S13.out.2.2.2.2.1.below hb hb.size) (And.intro (S13.out.2.2.2.2.2.1.below hb hb.size) (S13.out.2.2.2.2.2.2.below hb hb.size)))))))
            clear hb
            go_wp2_with fail
            refine (awake_any z4 S14.out.1).mono ?_
            rintro e z5 ⟨rfl, hb⟩
            have S15 := Lib.hid (And.intro (S14.out.1.thn hb) (And.intro (thn S14.out.2.1 hb) (And.intro (S14.out.2.2.1.below hb hb.size) (And.intro (S14.out.2.2.2.1.below hb hb.size) (And.intro (S14.out.2.2.2.2.1.below hb hb.size) (And.intro (S14.out.2.2.2.2.2.1.below hb hb.size) (S14.out.2.2.2.2.2.2.below hb hb.size)))))))
            clear hb
            go_wp2_with fail
            go_ret
            exact ⟨rfl, S15.out.2.1⟩
          · have hwd : wantR true a = p := HW.out
            have HQ : Hid (True ∧ canon (x ++ y) = p ∧ x.length + y.length = p.length ∧ NiceL 14 p) := ⟨trivial, by rw [← hwd]; exact HP.out.2.2.1, by rw [← hwd]; exact HP.out.2.2.2, Np.out⟩
            clear HP HW hwd HPD
            generalize hwn : w12 = wn at *
            clear hwn
            have hlw : ((x.length : Int) + (y.length : Int) != (p.length : Int)) = false := by
              have := HQ.out.2.2.1
              simp; omega
            obtain ⟨i0, hi, hz0, hz1, hz2⟩ := info_parts infoR
            obtain ⟨vx, hrx, hRx⟩ := S10.out.2.2.2.2.1.hdr
            have HX := Lib.hid (And.intro hrx hRx)
            have hx14 := NXY.out.1.1
            have hy14 := NXY.out.2.1
            clear hrx hRx
            go_wp2_with (at_builtin; refine wpList_append_fresh rfl (.tmp 180) (.tmp 181) 23 rfl wn.heap.size 34 i0 (.slice none 0 0) 1 24 Tryz.underlying23 hi hz0 hz1 hz2 rfl wn.heap.size rfl (own_empty wn 34 1) wn.heap.size Ax x.length cx vx rfl (HX.out.1.alloc (Nat.le_refl _) _) ?c2 ?c3 ?c4 ?_)
            case c2 => unfold maxLen; omega
            case c3 => omega
            case c4 => simp <;> omega
            intro v1 z1 ho1 hb1
            have hbz : Below wn.heap.size wn z1 := (al (Below.refl wn.heap.size wn) _).trans (hb1.mono (by simp <;> omega))
            obtain ⟨A5, c5, rfl⟩ := own_slice ho1
            obtain ⟨vy, hry, hRy⟩ := (S10.out.2.2.2.2.2.below hbz (Nat.le_refl _)).hdr
            have HY := Lib.hid (And.intro hry (And.intro hRy (And.intro ho1 (And.intro hbz (HX.out.2.below hbz)))))
            clear ho1 hb1 hbz hry hRy
            go_wp2_with (at_builtin; refine wpList_append_any _ rfl (.tmp 182) (.tmp 183) 23 rfl wn.heap.size 34 i0 (.slice none 0 0) 1 24 Tryz.underlying23 hi hz0 hz1 hz2 rfl (by decide) (.slice A5 x.length c5) x.length vx rfl HY.out.2.2.1 wn.heap.size Ay y.length cy vy rfl HY.out.1 HY.out.2.1.cell1 ?d2 ?d3 ?d4 ?_)
            case d2 => unfold maxLen; omega
            case d3 => omega
            case d4 => exact HY.out.2.2.2.1.size
            intro v2 z2 ho2 hgr2 _
            have hb : Below wn.heap.size wn z2 := HY.out.2.2.2.1.grown hgr2 HY.out.2.2.2.1.size (own_base HY.out.2.2.1)
            have hR2 : RowsR z2 wn.heap.size (vx ++ vy) (x ++ y) := (HY.out.2.2.2.2.app HY.out.2.1).grown hgr2 HY.out.2.2.2.1.size (own_base HY.out.2.2.1)
            have hlen2 : x.length + y.length = (x ++ y).length := List.length_append.symm
            rw [hlen2] at ho2
            obtain ⟨A6, c6, rfl, hl⟩ := own_lreads ho2 hR2 hb.size
            have NZ := Lib.hid (NXY.out.1.app NXY.out.2)
            have S11 := Lib.hid (And.intro (S10.out.1.thn hb) (And.intro (thn S10.out.2.1 hb) (And.intro (S10.out.2.2.1.below hb hb.size) (And.intro (S10.out.2.2.2.1.below hb hb.size) (hl)))))
            clear hl hb hR2 ho2 hgr2 hlen2 HX HY NXY
            have HQ2 : Hid (canon (x ++ y) = p ∧ NiceL 14 p) := ⟨HQ.out.2.1, HQ.out.2.2.2⟩
            clear HQ hlw hx14 hy14
            generalize x ++ y = z at *
            go_wp2_with fail
            have q := Canonical_nice A6 c6 (14 + 14) z z2 S11.out.2.2.2.2 NZ.out (by omega)
            rw [HQ2.out.1] at q
            refine q.mono ?_
            clear q
            rintro e z3 ⟨A7, c7, rfl, hl, hb⟩
            have S12 := Lib.hid (And.intro (S11.out.1.thn hb) (And.intro (thn S11.out.2.1 hb) (And.intro (S11.out.2.2.1.below hb hb.size) (And.intro (S11.out.2.2.2.1.below hb hb.size) (And.intro (S11.out.2.2.2.2.below hb hb.size) (hl))))))
            clear hl hb
            have hww : decide (p = p) = true := by simp
            go_wp2_with fail
            refine (REqual_nice A7 Ap c7 cp 14 14 p p z3 S12.out.2.2.2.2.2 S12.out.2.2.2.1 HQ2.out.2 HQ2.out.2 (by omega)).mono ?_
            rintro e z4 ⟨rfl, hb⟩
            have S13 := Lib.hid (And.intro (S12.out.1.thn hb) (And.intro (thn S12.out.2.1 hb) (And.intro (S12.out.2.2.1.below hb hb.size) (And.intro (S12.out.2.2.2.1.below hb hb.size) (And.intro (S12.out.2.2.2.2.1.below hb hb.size) (S12.out.2.2.2.2.2.below hb hb.size))))))
            clear hb
            go_wp2_with fail
            refine (awake_any z4 S13.out.1).mono ?_
            rintro e z5 ⟨rfl, hb⟩
            have S14 := Lib.hid (And.intro (S13.out.1.thn hb) (And.intro (thn S13.out.2.1 hb) (And.intro (S13.out.2.2.1.below hb hb.size) (And.intro (S13.out.2.2.2.1.below hb hb.size) (And.intro (S13.out.2.2.2.2.1.below hb hb.size) (S13.out.2.2.2.2.2.below hb hb.size))))))
            clear hb
            go_wp2_with fail
            go_ret
            exact ⟨rfl, S14.out.2.1⟩
end Go.Proofs.YtapnnheggjahlaaGreatDoor
