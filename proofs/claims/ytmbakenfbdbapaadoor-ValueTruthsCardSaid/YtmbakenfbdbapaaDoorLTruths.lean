/-
  THE LAW ValueTruths: it returns true, whatever came in.
-/
import Derived.Test.YtmbakenfbdbapaaDoorReg
namespace Go.Proofs.YtmbakenfbdbapaaDoor
open Go.RowKit

theorem cut_size (v : V) (h : v.s.size ≤ maxLen) : v.cut.s.size ≤ maxLen := by
  have : (v.s.extract 0 (min (v.s.size : Int) 202).toNat).size ≤ v.s.size := by
    rw [ByteArray.size_extract]; omega
  exact Nat.le_trans this h
theorem cut_fit {m : Nat} {l : List V} (h : VFit l) : VFit (cut m l) := fun v hv => by
  unfold cut at hv
  obtain ⟨u, hu, rfl⟩ := List.mem_map.1 hv
  exact cut_size u (h u (List.mem_of_mem_take hu))
theorem cut_len (m : Nat) (l : List V) : (cut m l).length ≤ m := by unfold cut; simp; omega

/-- Cut of one value: a slice of just it, cut -/
theorem Cut_one (g : Nat) (k n : Int) (s : ByteArray) (w : World) (h : Blk w g 24 #[.int .i64 k, .int .i64 n, .string s]) (hs : s.size ≤ maxLen) :
    Calls Tryd.prog 8 #[.slice (some ⟨g, 0, none⟩) 1 1, .int .i64 1] w fun e w' => ∃ g' c', e = .returned (.slice (some ⟨g', 0, none⟩) 1 c') ∧ 1 ≤ c' ∧
      C3 w' g' k n (V.cut ⟨k, n, s⟩).s ∧ Below w.heap.size w w' := by
  refine (Cut_any 1 _ 1 [⟨k, n, s⟩] w (VReads.one h h.lt) (VFit.one hs) (by simp [maxLen]) (by decide)).mono ?_
  rintro e w' ⟨v, rfl, ho, hb⟩
  obtain ⟨A, c, hv, hc, _, hr, hg⟩ := own_reads ho
  have e1 : cut 1 [⟨k, n, s⟩] = [V.cut ⟨k, n, s⟩] := rfl
  rw [e1] at hr hg hc hv
  obtain ⟨g', rfl, _⟩ := hg (by simp)
  obtain ⟨b, o, ha, hlt, c0, c1, c2⟩ := hr.at_ (i := 0) (by simp)
  obtain ⟨rfl, rfl, _⟩ : g' = b ∧ 0 = o ∧ True := by injection ha with ha; injection ha with h1 h2; exact ⟨h1, h2, trivial⟩
  exact ⟨g', c, by rw [hv]; rfl, hc, ⟨hlt, c0, c1, c2⟩, hb⟩

theorem C3.reads {w : World} {g : Nat} {a b : Int} {s : ByteArray} (h : C3 w g a b s) : VReads w w.heap.size (some ⟨g, 0, none⟩) [⟨a, b, s⟩] := fun _ => by
  refine ⟨g, 0, rfl, h.1, fun i v hi => ?_⟩
  cases i with
  | zero => simp at hi; subst hi; exact ⟨h.2.1, h.2.2.1, h.2.2.2⟩
  | succ i => simp at hi

/-- is there no error but a value that is no truth? -/
def tst (l : List V) : Bool := chk l == 0 && !(l.all V.tr)
theorem chkT_tst (l : List V) : chkT l = if tst l = true then 1 else chk l := by
  unfold chkT tst
  by_cases h : chk l = 0
  · rw [if_pos h]
    cases ht : l.all V.tr <;> simp [h]
  · rw [if_neg h]; simp [h]

theorem bcell {W w1 : World} (hb : Below W.heap.size W w1) : ∀ b o, b < W.heap.size → w1.cell? ⟨b, o, none⟩ = W.cell? ⟨b, o, none⟩ := fun b o h => hb.cell (p := ⟨b, o, none⟩) h
set_option maxHeartbeats 1000000 in
set_option maxRecDepth 100000 in
theorem truths_law (A : Option Addr) (c : Nat) (l : List V) (k n : Int) (s : ByteArray) (x : Bool) (w : World) (hG : G w) (hr : VReads w w.heap.size A l) (hf : VFit l) (hn : l.length ≤ maxLen) (hs : s.size ≤ maxLen) :
    Calls Tryd.prog 5 #[.slice A l.length c, .agg #[.int .i64 k, .int .i64 n, .string s], .bool x] w fun e w' => e = .returned (.bool true) ∧ Below w.heap.size w w' := by
  have HG := Lib.hid hG
  have HF := Lib.hid hf
  clear hG hf
  go_enter Tryd.func5, Tryd.ntmps5
  go_wp2_with fail
  refine (Cut_any 40 A c l _ (hr.below (al (Below.refl _ _) _) (by simp)) HF.out hn (by decide)).mono ?_
  rintro e w1 ⟨v1, rfl, ho1, hb1⟩
  obtain ⟨A1, c1, rfl, _, _, hr1, _⟩ := own_reads ho1
  have W1 := Lib.hid (thn (al (Below.refl w.heap.size w) _) hb1)
  have V1 := (Blk.new' (w := w) (g := w.heap.size) (t := 24) (cs := #[.int .i64 k, .int .i64 n, .string s]) rfl).below hb1 (by simp)
  clear ho1 hb1
  have hl1 := cut_len 40 l
  have HF1 := Lib.hid (cut_fit (m := 40) HF.out)
  generalize cut 40 l = l1 at *
  have HL1 := Lib.hid hl1
  clear hl1
  go_wp2_with fail
  refine (Long_any x A1 c1 l1 _ hr1 (by have := HL1.out; omega)).mono ?_
  rintro e w2 ⟨v2, out, rfl, ho2, hm2, hl2, hb2⟩
  obtain ⟨A2, c2, rfl, _, _, hr2, _⟩ := own_reads ho2
  have HF2 : Hid (VFit out) := fun v hv => HF1.out v (hm2 v hv)
  have W2 := Lib.hid (thn W1.out hb2)
  have V2 := V1.below hb2 V1.lt
  have HL2 := Lib.hid hl2
  clear ho2 hb2 hm2 hl2 V1 hr1 HF1 HL1
  obtain ⟨⟨a0, a1, a2⟩, ax⟩ := V2.three
  clear ax
  go_wp2_with fail
  refine (Cut_one _ k n s _ (Blk.new' rfl) hs).mono ?_
  rintro e w3 ⟨g3, c3, rfl, hc3, p3, hb3⟩
  have hu := cut_size ⟨k, n, s⟩ hs
  generalize (V.cut ⟨k, n, s⟩).s = u at *
  have W3 := Lib.hid (thn (al W2.out _) hb3)
  have P3 := Lib.hid p3
  have hr3 := hr2.below (al (Below.refl w2.heap.size w2) _) (by simp : w2.heap.size ≤ _) |>.below hb3 hb3.size
  clear hb3 a0 a1 a2 V2 p3 hr2
  have hlo : out.length ≤ maxLen := by have := HL2.out; unfold maxLen; omega
  go_wp2_with fail
  refine (And_any _ _ out _ hr3 HF2.out hlo).mono ?_
  rintro e w4 ⟨rfl, hb4⟩
  have W4 := Lib.hid (thn W3.out hb4)
  have P4 := Lib.hid (P3.out.thn hb4)
  have hr4 := hr3.below hb4 hb4.size
  have Q4 : Hid (C3 (w4.alloc (.cells #[.int .i64 (resJ false out).k, .int .i64 (resJ false out).n, .string (resJ false out).s] 24)) w4.heap.size (resJ false out).k (resJ false out).n (resJ false out).s) := C3.new
  clear hb4 P3 hr3
  go_wp2_with fail
  refine (Or_any _ _ out _ (hr4.below (al (Below.refl _ _) _) (by simp)) HF2.out hlo).mono ?_
  rintro e w5 ⟨rfl, hb5⟩
  have W5 := Lib.hid (thn (al W4.out _) hb5)
  have P5 := Lib.hid ((P4.out.al _).thn hb5)
  have Q5 := Lib.hid (Q4.out.thn hb5)
  have hr5 := (hr4.below (al (Below.refl w4.heap.size w4) _) (by simp : w4.heap.size ≤ _)).below hb5 hb5.size
  have R5 : Hid (C3 (w5.alloc (.cells #[.int .i64 (resJ true out).k, .int .i64 (resJ true out).n, .string (resJ true out).s] 24)) w5.heap.size (resJ true out).k (resJ true out).n (resJ true out).s) := C3.new
  clear hb5 P4 Q4 hr4
  obtain ⟨p0, p1, p2, p3⟩ := P5.out
  go_wp2_with fail
  refine (Not_any _ _ _ _ hu).mono ?_
  rintro e w6 ⟨rfl, hb6⟩
  have W6 := Lib.hid (thn (al W5.out _) hb6)
  have P6 := Lib.hid ((P5.out.al _).thn hb6)
  have Q6 := Lib.hid ((Q5.out.al _).thn hb6)
  have R6 := Lib.hid (R5.out.thn hb6)
  have hr6 := (hr5.below (al (Below.refl w5.heap.size w5) _) (by simp : w5.heap.size ≤ _)).below hb6 hb6.size
  have S6 : Hid (C3 (w6.alloc (.cells #[.int .i64 (resN ⟨k, n, u⟩).k, .int .i64 (resN ⟨k, n, u⟩).n, .string (resN ⟨k, n, u⟩).s] 24)) w6.heap.size (resN ⟨k, n, u⟩).k (resN ⟨k, n, u⟩).n (resN ⟨k, n, u⟩).s) := C3.new
  clear hb6 P5 Q5 R5 hr5 p0 p1 p2 p3
  go_wp2_with fail
  refine (List_any _ _ out _ (hr6.below (al (Below.refl _ _) _) (by simp)) HF2.out hlo).mono ?_
  rintro e w7 ⟨rfl, hb7⟩
  have W7 := Lib.hid (thn (al W6.out _) hb7)
  have P7 := Lib.hid ((P6.out.al _).thn hb7)
  have Q7 := Lib.hid ((Q6.out.al _).thn hb7)
  have R7 := Lib.hid ((R6.out.al _).thn hb7)
  have S7 := Lib.hid (S6.out.thn hb7)
  have hr7 := (hr6.below (al (Below.refl w6.heap.size w6) _) (by simp : w6.heap.size ≤ _)).below hb7 hb7.size
  clear hb7 P6 Q6 R6 S6 hr6
  go_wp2_with fail
  refine (List_any _ _ [⟨k, n, u⟩] _ P7.out.reads (VFit.one hu) (by simp [maxLen])).mono ?_
  rintro e w8 ⟨rfl, hb8⟩
  have W8 := Lib.hid (thn W7.out hb8)
  have P8 := Lib.hid (P7.out.thn hb8)
  have Q8 := Lib.hid (Q7.out.thn hb8)
  have R8 := Lib.hid (R7.out.thn hb8)
  have S8 := Lib.hid (S7.out.thn hb8)
  have hr8 := hr7.below hb8 hb8.size
  clear hb8 P7 Q7 R7 S7 hr7
  go_upto_region 7 with fail
  go_cut [51] (fun s wx => s = .bool (tst out) ∧ wx = w8)
  case first =>
    by_cases h : chk out = 0
    · have heb : (chk out == 0) = true := by simp [h]
      have HT : Hid (tst out = !(out.all V.tr)) := by show tst out = _; unfold tst; rw [heb]; rfl
      clear h
      go_wp2_with fail
      refine (Truths_any _ _ out _ hr8 hlo).mono ?_
      rintro e w9 ⟨rfl, rfl⟩
      go_wp2_with fail
      go_meet
      case rel => exact ⟨by rw [HT.out], rfl⟩
    · have heb : (chk out == 0) = false := by simp [h]
      have HT : Hid (tst out = false) := by show tst out = _; unfold tst; rw [heb]; rfl
      clear h
      go_wp2_with fail
      go_meet
      case rel => exact ⟨by rw [HT.out], rfl⟩
  case rest =>
    obtain ⟨rfl, hw⟩ := hcut
    obtain rfl := hw.symm
    go_upto_if 51 with fail
    go_cut [15] (fun s w' => s = .int .i64 (chkT out) ∧ w' = w8)
    case first =>
      cases h : tst out with
      | true =>
        have HT : Hid (chkT out = 1) := by show chkT out = _; rw [chkT_tst, h]; rfl
        go_wp2_with fail
        go_meet
        case rel => exact ⟨by rw [HT.out], rfl⟩
      | false =>
        have HT : Hid (chkT out = chk out) := by show chkT out = _; rw [chkT_tst, h]; rfl
        go_wp2_with fail
        go_meet
        case rel => exact ⟨by rw [HT.out], rfl⟩
    case rest =>
      obtain ⟨rfl, hw⟩ := hcut
      obtain rfl := hw.symm
      go_upto_region 9 with fail
      go_cut [58] (fun s wx => s = .bool (tst [⟨k, n, u⟩]) ∧ wx = w8)
      case first =>
        have hp8 := P8.out.reads
        by_cases h : chk [⟨k, n, u⟩] = 0
        · have heb : (chk [⟨k, n, u⟩] == 0) = true := by simp [h]
          have HT : Hid (tst [⟨k, n, u⟩] = !([(⟨k, n, u⟩ : V)].all V.tr)) := by show tst _ = _; unfold tst; rw [heb]; rfl
          clear h
          go_wp2_with fail
          refine (Truths_any _ _ [⟨k, n, u⟩] _ hp8 (by simp [maxLen])).mono ?_
          rintro e w9 ⟨rfl, rfl⟩
          go_wp2_with fail
          go_meet
          case rel => exact ⟨by rw [HT.out]; simp, rfl⟩
        · have heb : (chk [⟨k, n, u⟩] == 0) = false := by simp [h]
          have HT : Hid (tst [⟨k, n, u⟩] = false) := by show tst _ = _; unfold tst; rw [heb]; rfl
          clear h
          go_wp2_with fail
          go_meet
          case rel => exact ⟨by rw [HT.out], rfl⟩
      case rest =>
        obtain ⟨rfl, hw⟩ := hcut
        obtain rfl := hw.symm
        go_upto_if 58 with fail
        go_cut [16] (fun s w' => s = .int .i64 (chkT [⟨k, n, u⟩]) ∧ w' = w8)
        case first =>
          cases h : tst [⟨k, n, u⟩] with
          | true =>
            have HT : Hid (chkT [⟨k, n, u⟩] = 1) := by show chkT _ = _; rw [chkT_tst, h]; rfl
            go_wp2_with fail
            go_meet
            case rel => exact ⟨by rw [HT.out], rfl⟩
          | false =>
            have HT : Hid (chkT [⟨k, n, u⟩] = chk [⟨k, n, u⟩]) := by show chkT _ = _; rw [chkT_tst, h]; rfl
            go_wp2_with fail
            go_meet
            case rel => exact ⟨by rw [HT.out], rfl⟩
        case rest =>
          obtain ⟨rfl, hw⟩ := hcut
          obtain rfl := hw.symm
          go_upto_region 11 with fail
          go_cut [86] (fun s wx => s = .bool false ∧ Hid (Below w8.heap.size w8 wx))
          case first =>
            have heq := @eqV
            have hne := @neqV
            have hz : veq 0 0 ⟨#[]⟩ 0 0 ⟨#[]⟩ = true := veq_self _ _ _
            by_cases h1 : chkT [⟨k, n, u⟩] = 0
            · have H1 := Lib.hid h1
              have e1 : (chkT [⟨k, n, u⟩] == 0) = true := by simp [h1]
              have e2 : (chkT [⟨k, n, u⟩] != 0) = false := by simp [h1]
              have hs := veq_self (resN ⟨k, n, u⟩).k (resN ⟨k, n, u⟩).n (resN ⟨k, n, u⟩).s
              obtain ⟨p1, p2, p3⟩ := P8.out.aft
              obtain ⟨s1, s2, s3⟩ := S8.out.aft
              clear h1
              go_wp2_with fail
              refine region_aft (by kernel_rfl) (by kernel_rfl) ?_
              repeat (go_big_quiet_step ((go_at_call 23; exact aft_call (rNot_any _ _ _ _ H1.out))))
              refine wpQuiet_nil ?_
              intro x9
              go_wp2_with fail
              go_meet
              case rel => exact ⟨rfl, x9.h⟩
            · have hr : resN ⟨k, n, u⟩ = zV := by unfold resN; rw [if_neg h1]
              obtain ⟨s0, s1, s2, s3⟩ := S8.out
              rw [hr] at s1 s2 s3
              simp only [zV] at s1 s2 s3
              have e1 : (chkT [⟨k, n, u⟩] == 0) = false := by simp [h1]
              have e2 : (chkT [⟨k, n, u⟩] != 0) = true := by simp [h1]
              clear h1 hr
              go_wp2_with fail
              go_quiet (fail)
              go_wp2_with fail
              go_meet
              case rel => exact ⟨rfl, below_drewN (Below.refl _ _) _⟩
          case rest =>
            obtain ⟨rfl, HB9⟩ := hcut
            have HW := Lib.hid (thn W8.out HB9.out)
            have HGc := Lib.hid (HG.out.thn HW.out)
            have heq := @eqV
            have hz : veq 0 0 ⟨#[]⟩ 0 0 ⟨#[]⟩ = true := veq_self _ _ _
            by_cases h0 : chkT out = 0
            · have H0 := Lib.hid h0
              have e1 : (chkT out == 0) = true := by simp [h0]
              have e2 : (chkT out != 0) = false := by simp [h0]
              have hs1 := veq_self (resJ false out).k (resJ false out).n (resJ false out).s
              have hs2 := veq_self (resJ true out).k (resJ true out).n (resJ true out).s
              obtain ⟨q1, q2, q3⟩ := (Q8.out.thn HB9.out).aft
              obtain ⟨r1, r2, r3⟩ := (R8.out.thn HB9.out).aft
              have HRc := Lib.hid (hr8.below HB9.out HB9.out.size)
              clear h0 hr8
              go_wp2_with fail
              refine region_aft (by kernel_rfl) (by kernel_rfl) ?_
              repeat (go_big_quiet_step ((first | (go_at_call 24; exact aft_call (rAnd_res _ _ out _ (HRc.out.below (Aft.h _) (Aft.h _).size) hlo H0.out)) | (go_at_call 25; exact aft_call (rOr_res _ _ out _ (HRc.out.below (Aft.h _) (Aft.h _).size) hlo H0.out)) | (go_at_call 14; exact aft_call (awake_any _ (HGc.out.thn (Aft.h _)))))))
              refine wpQuiet_nil ?_
              intro x9
              go_wp2_with fail
              go_ret
              exact ⟨rfl, thn HW.out x9.h⟩
            · have ha : resJ false out = zV := if_neg h0
              have ho : resJ true out = zV := if_neg h0
              obtain ⟨q0, q1, q2, q3⟩ := Q8.out.thn HB9.out
              obtain ⟨r0, r1, r2, r3⟩ := R8.out.thn HB9.out
              rw [ha] at q1 q2 q3
              rw [ho] at r1 r2 r3
              simp only [zV] at q1 q2 q3 r1 r2 r3
              have e2 : (chkT out != 0) = true := by simp [h0]
              clear h0 ha ho
              go_wp2_with fail
              refine (awake_any _ HGc.out).mono ?_
              rintro e w10 ⟨rfl, hb10⟩
              go_wp2_with fail
              go_ret
              exact ⟨rfl, thn HW.out hb10⟩
end Go.Proofs.YtmbakenfbdbapaaDoor
