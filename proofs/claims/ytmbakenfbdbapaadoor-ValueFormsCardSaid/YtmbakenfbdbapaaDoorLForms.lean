/-
  THE LAW ValueForms: it returns true, whatever came in.
-/
import Derived.Test.YtmbakenfbdbapaaDoorStr
import Derived.Test.YtmbakenfbdbapaaDoorChk
import Derived.Test.YtmbakenfbdbapaaDoorReg
import Derived.Deep.RegionHeld3
namespace Go.Proofs.YtmbakenfbdbapaaDoor
open Go.RowKit

theorem cutF_size (v : V) (h : v.s.size ≤ maxLen) : v.cut.s.size ≤ maxLen := by
  have : (v.s.extract 0 (min (v.s.size : Int) 202).toNat).size ≤ v.s.size := by
    rw [ByteArray.size_extract]; omega
  exact Nat.le_trans this h
theorem C3.blk' {w : World} {g : Nat} {T : TypeId} {a b : Int} {s : ByteArray} (h : Blk w g T #[.int .i64 a, .int .i64 b, .string s]) : C3 w g a b s := ⟨h.lt, h.cell 0, h.cell 1, h.cell 2⟩
theorem VReads.first {w : World} {B : Nat} {A : Option Addr} {x : V} {l : List V} (h : VReads w B A (x :: l)) : VReads w B A [x] := fun _ => by
  obtain ⟨b, o, ha, hb, hc⟩ := h (by simp)
  refine ⟨b, o, ha, hb, fun i v hi => ?_⟩
  cases i with
  | zero => exact hc 0 v (by simpa using hi)
  | succ i => simp at hi
/-- what Compare of any two values returns -/
def resC (x y : V) : Int := if chk [x, y] = 0 then cmpV x.k x.n x.s y.k y.n y.s else 0
theorem Compare_any (k n : Int) (s : ByteArray) (k' n' : Int) (s' : ByteArray) (w : World) (hs : s.size ≤ maxLen) (hs' : s'.size ≤ maxLen) :
    Calls Tryd.prog 10 #[.agg #[.int .i64 k, .int .i64 n, .string s], .agg #[.int .i64 k', .int .i64 n', .string s']] w fun e w' => e = .returned (.tuple #[.int .i64 (resC ⟨k, n, s⟩ ⟨k', n', s'⟩), .int .i64 (chk [⟨k, n, s⟩, ⟨k', n', s'⟩])]) ∧ Below w.heap.size w w' := by
  by_cases h : chk [⟨k, n, s⟩, ⟨k', n', s'⟩] = 0
  · have e : resC ⟨k, n, s⟩ ⟨k', n', s'⟩ = cmpV k n s k' n' s' := if_pos h
    rw [e, h]
    exact Compare_ok k n s k' n' s' w hs hs' h
  · have e : resC ⟨k, n, s⟩ ⟨k', n', s'⟩ = 0 := if_neg h
    rw [e]
    exact Compare_err k n s k' n' s' w hs hs' h

set_option maxHeartbeats 1000000 in
set_option maxRecDepth 100000 in
theorem forms_law (k n : Int) (s : ByteArray) (k' n' : Int) (s' : ByteArray) (w : World) (hG : G w) (hs : s.size ≤ maxLen) (hs' : s'.size ≤ maxLen) (hn : I64 n) :
    Calls Tryd.prog 3 #[.agg #[.int .i64 k, .int .i64 n, .string s], .agg #[.int .i64 k', .int .i64 n', .string s']] w fun e w' => e = .returned (.bool true) ∧ Below w.heap.size w w' := by
  have HG := Lib.hid hG
  have HN := Lib.hid hn
  clear hG hn
  go_enter Tryd.func3, Tryd.ntmps3
  go_wp2_with fail
  refine (Cut_any 2 _ 2 [⟨k, n, s⟩, ⟨k', n', s'⟩] _ (VReads.two (Blk.new' (g := w.heap.size + 1 + 1) (by simp)) (by simp)) (VFit.two hs hs') (by simp [maxLen]) (by decide)).mono ?_
  rintro e w1 ⟨v1, rfl, ho1, hb1⟩
  have W1 := Lib.hid (thn (al (al (al (Below.refl w.heap.size w) _) _) _) hb1)
  have e1 : cut 2 [⟨k, n, s⟩, ⟨k', n', s'⟩] = [⟨k, n, (V.cut ⟨k, n, s⟩).s⟩, ⟨k', n', (V.cut ⟨k', n', s'⟩).s⟩] := rfl
  rw [e1] at ho1
  have hu := cutF_size ⟨k, n, s⟩ hs
  have hu' := cutF_size ⟨k', n', s'⟩ hs'
  generalize (V.cut ⟨k, n, s⟩).s = u at *
  generalize (V.cut ⟨k', n', s'⟩).s = u' at *
  clear e1 hb1 hs hs'
  obtain ⟨A1, c1, rfl, hc1, _, hr1, hg1⟩ := own_reads ho1
  obtain ⟨g, rfl, _⟩ := hg1 (by simp)
  have HR1 := Lib.hid hr1
  have hc2 : 2 ≤ c1 := by simpa using hc1
  obtain ⟨b, o, ha, hlt, a0, a1, a2⟩ := hr1.at_ (i := 0) (by simp)
  obtain ⟨b', o', ha', _, b0, b1, b2⟩ := hr1.at_ (i := 1) (by simp)
  obtain ⟨rfl, rfl⟩ : g = b ∧ 0 = o := by injection ha with ha; injection ha with h1 h2; exact ⟨h1, h2⟩
  obtain ⟨rfl, rfl⟩ : g = b' ∧ 0 = o' := by injection ha' with ha; injection ha with h1 h2; exact ⟨h1, h2⟩
  clear ha ha' hr1 hg1 ho1 hc1
  simp only [List.getElem_cons_zero, List.getElem_cons_succ, Nat.zero_mul, Nat.zero_add, Nat.one_mul] at a0 a1 a2 b0 b1 b2
  go_upto_region 2 with fail
  go_cut [6, 7] (fun p q wx => ∃ g6 g7, p = .pointer (some ⟨g6, 0, none⟩) ∧ q = .pointer (some ⟨g7, 0, none⟩) ∧ Hid (C3 wx g6 k n u) ∧ Hid (C3 wx g7 k' n' u') ∧ Hid (Below w1.heap.size w1 wx))
  case first =>
    go_region_held3 (fun w' => w'.cell? ⟨g, 0, none⟩ = some (.int .i64 k) ∧ w'.cell? ⟨g, 1, none⟩ = some (.int .i64 n) ∧ w'.cell? ⟨g, 2, none⟩ = some (.string u) ∧ w'.cell? ⟨g, 3, none⟩ = some (.int .i64 k') ∧ w'.cell? ⟨g, 4, none⟩ = some (.int .i64 n') ∧ w'.cell? ⟨g, 5, none⟩ = some (.string u')) (go_keep) (first | fail)
    · go_wp2_with fail
      go_meet
      case rel => exact ⟨_, _, rfl, rfl, C3.new.al _, C3.blk' (Blk.new' (by simp)), (al (al (Below.refl _ _) _) _).drew⟩
    · go_wp2_with fail
      go_meet
      case rel => exact ⟨_, _, rfl, rfl, C3.blk' (Blk.new' (by simp)), C3.new.al _, (al (al (Below.refl _ _) _) _).drew⟩
  case rest =>
    obtain ⟨g6, g7, rfl, rfl, P2, Q2, B2⟩ := hcut
    have W2 := Lib.hid (thn W1.out B2.out)
    have R2 := Lib.hid (HR1.out.below B2.out B2.out.size)
    clear a0 a1 a2 b0 b1 b2
    go_wp2_with fail
    refine (List_any _ _ [⟨k, n, u⟩] _ R2.out.first (VFit.one hu) (by simp [maxLen])).mono ?_
    rintro e w3 ⟨rfl, hb3⟩
    have W3 := Lib.hid (thn W2.out hb3)
    have P3 := Lib.hid (P2.out.thn hb3)
    have Q3 := Lib.hid (Q2.out.thn hb3)
    have R3 := Lib.hid (R2.out.below hb3 hb3.size)
    obtain ⟨p0, p1, p2, p3⟩ := P3.out
    obtain ⟨q0, q1, q2, q3⟩ := Q3.out
    clear hb3 P2 Q2 R2
    go_wp2_with fail
    refine (Compare_any k n u k' n' u' _ hu hu').mono ?_
    rintro e w4 ⟨rfl, hb4⟩
    have W4 := Lib.hid (thn W3.out hb4)
    have P4 := Lib.hid (P3.out.thn hb4)
    have Q4 := Lib.hid (Q3.out.thn hb4)
    have R4 := Lib.hid (R3.out.below hb4 hb4.size)
    clear hb4 P3 Q3 R3 p0 p1 p2 p3 q0 q1 q2 q3
    obtain ⟨p0, p1, p2, p3⟩ := P4.out
    go_wp2_with fail
    refine (String_any k n u _ (HG.out.thn W4.out) hu HN.out).mono ?_
    rintro e w5 ⟨rfl, hb5⟩
    have W5 := Lib.hid (thn W4.out hb5)
    have P5 := Lib.hid (P4.out.thn hb5)
    have Q5 := Lib.hid (Q4.out.thn hb5)
    have R5 := Lib.hid (R4.out.below hb5 hb5.size)
    clear hb5 P4 Q4 R4 p0 p1 p2 p3
    obtain ⟨p0, p1, p2, p3⟩ := P5.out
    go_wp2_with fail
    refine (Check_any k n u _ hu).mono ?_
    rintro e w6 ⟨rfl, hb6⟩
    have W6 := Lib.hid (thn W5.out hb6)
    have P6 := Lib.hid (P5.out.thn hb6)
    have Q6 := Lib.hid (Q5.out.thn hb6)
    have R6 := Lib.hid (R5.out.below hb6 hb6.size)
    clear hb6 P5 Q5 R5 p0 p1 p2 p3
    obtain ⟨p0, p1, p2, p3⟩ := P6.out
    go_upto_region 8 with fail
    go_cut [11, 66] (fun _ s wx => s = .bool false ∧ Hid (Below w6.heap.size w6 wx))
    case first =>
      by_cases hx : chk [⟨k, n, u⟩] = 0
      · have hok : okVal k n u.data.toList = true := by
          cases hh : V.ok ⟨k, n, u⟩ with
          | true => exact hh
          | false => rw [chk_one_bad hh] at hx; cases hx
        have HK := Lib.hid hok
        have er : resS ⟨k, n, u⟩ = ⟨(strB k n u).toArray⟩ := if_pos hx
        rw [er]
        have e1 : (chk [⟨k, n, u⟩] != 0) = false := by simp [hx]
        have e2 : (chk [⟨k, n, u⟩] == 0) = true := by simp [hx]
        clear hx hok er
        go_wp2_with fail
        refine (rString_right k n u _ HK.out HN.out).mono ?_
        rintro e w7 ⟨rfl, hb7⟩
        have HB7 := Lib.hid hb7
        clear hb7
        go_wp2_with fail
        go_meet
        case rel => exact ⟨rfl, HB7.out⟩
      · have er : resS ⟨k, n, u⟩ = ⟨#[]⟩ := if_neg hx
        rw [er]
        have e1 : (chk [⟨k, n, u⟩] != 0) = true := by simp [hx]
        have e2 : (chk [⟨k, n, u⟩] == 0) = false := by simp [hx]
        clear hx er
        go_wp2_with fail
        go_meet
        case rel => exact ⟨rfl, Below.refl _ _⟩
    case rest =>
      obtain ⟨rfl, HB7⟩ := hcut
      have W7 := Lib.hid (thn W6.out HB7.out)
      have P7 := Lib.hid (P6.out.thn HB7.out)
      have Q7 := Lib.hid (Q6.out.thn HB7.out)
      have R7 := Lib.hid (R6.out.below HB7.out HB7.out.size)
      clear P6 Q6 R6 p0 p1 p2 p3
      go_wp2_with fail
      refine (List_any _ _ [⟨k, n, u⟩, ⟨k', n', u'⟩] _ R7.out (VFit.two hu hu') (by simp [maxLen])).mono ?_
      rintro e w8 ⟨rfl, hb8⟩
      have W8 := Lib.hid (thn W7.out hb8)
      obtain ⟨p0, p1, p2, p3⟩ := P7.out.thn hb8
      obtain ⟨q0, q1, q2, q3⟩ := Q7.out.thn hb8
      clear hb8 P7 Q7 R7
      by_cases hxy : chk [⟨k, n, u⟩, ⟨k', n', u'⟩] = 0
      · have er : resC ⟨k, n, u⟩ ⟨k', n', u'⟩ = cmpV k n u k' n' u' := if_pos hxy
        rw [er]
        have e1 : (chk [⟨k, n, u⟩, ⟨k', n', u'⟩] != 0) = false := by simp [hxy]
        have e2 : (chk [⟨k, n, u⟩, ⟨k', n', u'⟩] == 0) = true := by simp [hxy]
        clear hxy er
        go_wp2_with fail
        refine (rCompare_any k n u k' n' u' _ hu hu').mono ?_
        rintro e w9 ⟨rfl, hb9⟩
        have W9 := Lib.hid (thn W8.out hb9)
        clear hb9 p0 p1 p2 p3 q0 q1 q2 q3
        go_wp2_with fail
        refine (awake_any _ (HG.out.thn W9.out)).mono ?_
        rintro e w10 ⟨rfl, hb10⟩
        go_wp2_with fail
        go_ret
        exact ⟨rfl, thn W9.out hb10⟩
      · have er : resC ⟨k, n, u⟩ ⟨k', n', u'⟩ = 0 := if_neg hxy
        rw [er]
        have e1 : (chk [⟨k, n, u⟩, ⟨k', n', u'⟩] != 0) = true := by simp [hxy]
        clear hxy er p0 p1 p2 p3 q0 q1 q2 q3
        go_wp2_with fail
        refine (awake_any _ (HG.out.thn W8.out)).mono ?_
        rintro e w10 ⟨rfl, hb10⟩
        go_wp2_with fail
        go_ret
        exact ⟨rfl, thn W8.out hb10⟩
end Go.Proofs.YtmbakenfbdbapaaDoor
