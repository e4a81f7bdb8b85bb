/-
  THE LAW ValueLists: it returns true, whatever came in.
-/
import Derived.Test.YtmhddoikicapjaaGreatDoorOnce
import Derived.Test.YtmhddoikicapjaaGreatDoorCut1
import Derived.Test.YtmhddoikicapjaaGreatDoorRefL
import Derived.Test.YtmhddoikicapjaaGreatDoorRefS
namespace Go.Proofs.YtmhddoikicapjaaGreatDoor
open Go.RowKit

theorem own_plain {w : World} {B : Nat} {e : TypeId} {A : Option Addr} {n c : Nat} {xs : List Value} (h : w.ownsRow B e 3 (.slice A n c) n xs) : Plain A := fun ad ha => by
  rcases h.2 with ⟨e0, _⟩ | ⟨g, cap, cur, e0, _⟩
  · injection e0 with e1
    rw [e1] at ha
    cases ha
  · injection e0 with e1
    rw [e1] at ha
    injection ha with ha
    exact ⟨g, 0, ha.symm⟩
theorem sameV_self (l : List V) : sameV l l = true := (sameV_iff l l).2 rfl
theorem VFit.dd {l : List V} (h : VFit l) : VFit (dd l) := fun v hv => h v (dd_mem hv)

theorem ok_size {v : V} (h : V.ok v = true) : v.s.size ≤ maxLen := by
  have h0 : (⟨#[]⟩ : ByteArray).size = 0 := rfl
  unfold maxLen
  rcases ok_cases (k := v.k) (n := v.n) (s := v.s) h with ⟨_, _, e⟩ | ⟨_, e⟩ | ⟨_, _, e⟩ | ⟨_, _, e⟩ | ⟨_, _, ht⟩
  · rw [e, h0]; omega
  · rw [e, h0]; omega
  · rw [e, h0]; omega
  · rw [e, h0]; omega
  · have := okText_size ht; omega

set_option maxHeartbeats 1000000 in
set_option maxRecDepth 100000 in
theorem lists_law (A : Option Addr) (c : Nat) (l : List V) (x : Bool) (w : World) (hG : G w) (hr : VReads w w.heap.size A l) (hf : VFit l) (hn : l.length ≤ maxLen) :
    Calls Tryz.prog 3 #[.slice A l.length c, .bool x] w fun e w' => e = .returned (.bool true) ∧ Below w.heap.size w w' := by
  have HG := Lib.hid hG
  have HF := Lib.hid hf
  clear hG hf
  go_enter Tryz.func3, Tryz.ntmps3
  go_wp2_with fail
  refine (Cut_any 40 A c l _ hr HF.out hn (by decide)).mono ?_
  rintro e w1 ⟨v1, rfl, ho1, hb1⟩
  obtain ⟨A1, c1, rfl, _, _, hr1, _⟩ := own_reads ho1
  have W1 := Lib.hid hb1
  clear ho1 hb1 hr hn
  have hl1 := cut_len 40 l
  have HF1 := Lib.hid (cut_fit (m := 40) HF.out)
  generalize cut 40 l = l1 at *
  have HL1 := Lib.hid hl1
  clear hl1 HF
  go_wp2_with fail
  refine (Long_any x A1 c1 l1 _ hr1 (by have := HL1.out; omega)).mono ?_
  rintro e w2 ⟨v2, out, rfl, ho2, hm2, hl2, hb2⟩
  obtain ⟨A2, c2, rfl, hc2, _, hr2, _⟩ := own_reads ho2
  have HF2 : Hid (VFit out) := fun v hv => HF1.out v (hm2 v hv)
  have HP := Lib.hid (own_plain ho2)
  have HC2 := Lib.hid hc2
  have W2 := Lib.hid (thn W1.out hb2)
  have HL2 := Lib.hid hl2
  have HR2 := Lib.hid hr2
  have HSL := Lib.hid (srt_len out)
  have HDL := Lib.hid (dd_len (srt out))
  clear ho2 hb2 hm2 hl2 hr1 HF1 HL1 hr2 hc2 W1
  have hno : out.length ≤ 1000000 := by have := HL2.out; omega
  have hmo : out.length ≤ maxLen := by have := HL2.out; unfold maxLen; omega
  by_cases h0 : chk out = 0
  · have H0 := Lib.hid h0
    clear h0
    go_wp2_with fail
    refine (Sorted_ok A2 c2 out _ HR2.out HP.out HF2.out hno H0.out).mono ?_
    rintro e w3 ⟨v3, rfl, ho3, hb3⟩
    have HO3 := Lib.hid ho3
    have W3 := Lib.hid (thn W2.out hb3)
    have HR3 := Lib.hid (HR2.out.below hb3 hb3.size)
    clear ho3 hb3 HR2
    go_wp2_with fail
    refine (Distinct_ok A2 c2 out _ HR3.out HP.out HF2.out hno H0.out).mono ?_
    rintro e w4 ⟨v4, rfl, ho4, hb4⟩
    have HO4 := Lib.hid ho4
    have W4 := Lib.hid (thn W3.out hb4)
    have HO34 := Lib.hid (own_below HO3.out hb4)
    have HR4 := Lib.hid (HR3.out.below hb4 hb4.size)
    clear ho4 hb4 HR3 HO3
    go_wp2_with fail
    refine (List_any A2 c2 out _ HR4.out HF2.out hmo).mono ?_
    rw [H0.out]
    rintro e w5 ⟨rfl, hb5⟩
    have W5 := Lib.hid (thn W4.out hb5)
    have HO35 := Lib.hid (own_below HO34.out hb5)
    have HO45 := Lib.hid (own_below HO4.out hb5)
    have HR5 := Lib.hid (HR4.out.below hb5 hb5.size)
    clear hb5 HR4 HO34 HO4
    go_wp2_with fail
    refine (rSorted_any (out.length + 1) A2 c2 out _ (Nat.lt_succ_self _) HR5.out HF2.out HC2.out hno).mono ?_
    rintro e w6 ⟨v6, rfl, ho6, hb6⟩
    have W6 := Lib.hid (thn W5.out hb6)
    have HO36 := Lib.hid (own_below HO35.out hb6)
    have HO46 := Lib.hid (own_below HO45.out hb6)
    have HR6 := Lib.hid (HR5.out.below hb6 hb6.size)
    obtain ⟨A6, c6, rfl, _, _, hr6, _⟩ := own_reads ho6
    obtain ⟨A3, c3, rfl, _, _, hr3, _⟩ := own_reads HO36.out
    clear hb6 HR5 HO35 HO45 ho6
    have hms : (srt out).length ≤ maxLen := by have := HSL.out; omega
    go_wp2_with fail
    refine (Same_any A3 A6 c3 c6 (srt out) (srt out) _ hr3 hr6 hms hms).mono ?_
    rw [sameV_self]
    rintro e w7 ⟨rfl, hb7⟩
    have W7 := Lib.hid (thn W6.out hb7)
    have HO47 := Lib.hid (own_below HO46.out hb7)
    have HR7 := Lib.hid (HR6.out.below hb7 hb7.size)
    clear hb7 HR6 HO46 HO36 hr3 hr6
    go_wp2_with fail
    refine (rDistinct_any A2 c2 out _ HR7.out HF2.out HC2.out hno).mono ?_
    rintro e w8 ⟨v8, rfl, ho8, hb8⟩
    have W8 := Lib.hid (thn W7.out hb8)
    have HO48 := Lib.hid (own_below HO47.out hb8)
    obtain ⟨A8, c8, rfl, _, _, hr8, _⟩ := own_reads ho8
    obtain ⟨A4, c4, rfl, _, _, hr4, _⟩ := own_reads HO48.out
    clear hb8 HR7 HO47 ho8
    have hmd : (dd (srt out)).length ≤ maxLen := by have := HSL.out; have := HDL.out; omega
    go_wp2_with fail
    refine (Same_any A4 A8 c4 c8 (dd (srt out)) (dd (srt out)) _ hr4 hr8 hmd hmd).mono ?_
    rw [sameV_self]
    rintro e w9 ⟨rfl, hb9⟩
    have W9 := Lib.hid (thn W8.out hb9)
    clear hb9 hr4 hr8
    go_wp2_with fail
    refine (awake_any _ (HG.out.thn W9.out)).mono ?_
    rintro e w10 ⟨rfl, hb10⟩
    go_wp2_with fail
    go_ret
    exact ⟨rfl, thn W9.out hb10⟩
  · have hne : (chk out != 0) = true := by simp [h0]
    have H0 := Lib.hid h0
    clear h0
    go_wp2_with fail
    refine (Sorted_err A2 c2 out _ HR2.out HF2.out hno H0.out).mono ?_
    rintro e w3 ⟨rfl, hb3⟩
    have W3 := Lib.hid (thn W2.out hb3)
    have HR3 := Lib.hid (HR2.out.below hb3 hb3.size)
    clear hb3 HR2
    go_wp2_with fail
    refine (Distinct_err A2 c2 out _ HR3.out HF2.out hno H0.out).mono ?_
    rintro e w4 ⟨rfl, hb4⟩
    have W4 := Lib.hid (thn W3.out hb4)
    have HR4 := Lib.hid (HR3.out.below hb4 hb4.size)
    clear hb4 HR3
    go_wp2_with fail
    refine (List_any A2 c2 out _ HR4.out HF2.out hmo).mono ?_
    rintro e w5 ⟨rfl, hb5⟩
    have W5 := Lib.hid (thn W4.out hb5)
    clear hb5 HR4
    go_wp2_with fail
    refine (awake_any _ (HG.out.thn W5.out)).mono ?_
    rintro e w6 ⟨rfl, hb6⟩
    go_wp2_with fail
    go_ret
    exact ⟨rfl, thn W5.out hb6⟩
end Go.Proofs.YtmhddoikicapjaaGreatDoor
