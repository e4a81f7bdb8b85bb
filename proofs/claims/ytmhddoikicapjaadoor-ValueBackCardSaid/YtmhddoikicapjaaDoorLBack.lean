/-
  THE LAW ValueBack: it returns true, whatever came in.
-/
import Derived.Test.YtmhddoikicapjaaDoorBack
import Derived.Test.YtmhddoikicapjaaDoorChk
import Derived.Test.YtmhddoikicapjaaDoorCut1
import Derived.Test.YtmhddoikicapjaaDoorRefT
import Derived.Test.YtmhddoikicapjaaDoorReg
namespace Go.Proofs.YtmhddoikicapjaaDoor
open Go.RowKit

theorem cut_okT (n : Int) (s : ByteArray) : okVal 3 n (V.cut ⟨3, n, s⟩).s.data.toList = okVal 3 n s.data.toList := by
  by_cases h : s.size ≤ 200
  · have e : (V.cut ⟨3, n, s⟩).s = s := by
      show s.extract 0 (min (s.size : Int) 202).toNat = s
      have e1 : (min (s.size : Int) 202).toNat = s.size := by omega
      rw [e1]
      apply ba_list
      rw [ByteArray.data_extract, Array.toList_extract]
      simp only [List.extract_eq_take_drop, Nat.sub_zero, List.drop_zero]
      exact List.take_of_length_le (by simp)
    rw [e]
  · have h1 : okText s.data.toList = false := okText_long s h
    have h2 : okText (V.cut ⟨3, n, s⟩).s.data.toList = false := okText_long _ (by
      show ¬ (s.extract 0 (min (s.size : Int) 202).toNat).size ≤ 200
      rw [ByteArray.size_extract]; omega)
    show (n == 0 && okText _) = (n == 0 && okText _)
    rw [h1, h2]
set_option maxHeartbeats 1000000 in
set_option maxRecDepth 100000 in
theorem back_law (k n : Int) (s t : ByteArray) (w : World) (hG : G w) (hs : s.size ≤ maxLen) (ht : t.size ≤ maxLen) (hn : I64 n) :
    Calls Tryd.prog 4 #[.agg #[.int .i64 k, .int .i64 n, .string s], .string t] w fun e w' => e = .returned (.bool true) ∧ Below w.heap.size w w' := by
  have HG := Lib.hid hG
  have HN := Lib.hid hn
  have HS := Lib.hid hs
  have ht := Nat.le_trans ht (Nat.le_refl _)
  unfold maxLen at ht
  have hne := @neqV
  have heq := @eqV
  clear hG hn
  go_enter Tryd.func4, Tryd.ntmps4
  go_wp2_with fail
  refine (Tame_any k n s _ HN.out hs).mono ?_
  rintro e w1 ⟨y, rfl, hy, hyn, hb1⟩
  have HY := Lib.hid hy
  have HYN := Lib.hid hyn
  have W1 := Lib.hid (thn (al (Below.refl w.heap.size w) _) hb1)
  have A1 := (Blk.new' (w := w) (g := w.heap.size) (t := 25) (cs := #[.int .i64 k, .int .i64 n, .string s]) rfl).below hb1 (by simp)
  clear hb1 hy hyn hs
  go_upto_region 2 with fail
  have A2 := A1.alloc (.cells #[.int .i64 y.k, .int .i64 y.n, .string y.s] 25)
  have Y2 := Blk.new' (w := w1) (g := w1.heap.size) (t := 25) (cs := #[.int .i64 y.k, .int .i64 y.n, .string y.s]) rfl
  have W2 := Lib.hid (al W1.out (.cells #[.int .i64 y.k, .int .i64 y.n, .string y.s] 25))
  have hw1 : w.heap.size ≤ w1.heap.size := W1.out.size
  clear A1
  generalize hw2 : w1.alloc (.cells #[.int .i64 y.k, .int .i64 y.n, .string y.s] 25) = w2 at *
  clear hw2
  go_cut [27] (fun b wx => ∃ B : Bool, b = .bool B ∧ Hid (B = true → okVal k n s.data.toList = true) ∧ Hid (Below w2.heap.size w2 wx))
  case first =>
    obtain ⟨⟨a0, a1, a2⟩, ax⟩ := A2.three
    clear ax
    by_cases hk : k = 3
    · subst hk
      go_wp2_with fail
      refine (Cut_one _ 3 n s _ (Blk.new' rfl) HS.out).mono ?_
      rintro e w3 ⟨g3, c3, rfl, hc3, p3, hb3⟩
      have hu := cut_size ⟨3, n, s⟩ HS.out
      have hcut := cut_okT n s
      generalize (V.cut ⟨3, n, s⟩).s = u at *
      have W3 := Lib.hid (thn (al (Below.refl w2.heap.size w2) _) hb3)
      obtain ⟨p0, p1, p2, p3⟩ := p3
      clear hb3 a0 a1 a2
      go_wp2_with fail
      refine (Right_any 3 n u _ hu).mono ?_
      rintro e w4 ⟨rfl, hb4⟩
      rw [hcut]
      have W4 := Lib.hid (thn W3.out hb4)
      clear hb4
      go_wp2_with fail
      go_meet
      case rel => exact ⟨_, rfl, fun h => h, W4.out⟩
    · have hkk : (k == 3) = false := by simp [hk]
      go_wp2_with fail
      go_meet
      case rel => exact ⟨false, rfl, (fun h => by cases h), Below.refl _ _⟩
  case rest =>
    obtain ⟨B, rfl, HBT, HB3⟩ := hcut
    rename_i w3
    have A3 := A2.below HB3.out A2.lt
    have Y3 := Y2.below HB3.out Y2.lt
    have W3 := Lib.hid (thn W2.out HB3.out)
    clear A2 Y2 HB3 W2
    go_upto_if 27 with fail
    go_cut [28] (fun _ wx => ∃ z : V, Hid (V.ok z = true) ∧ Hid (I64 z.n) ∧ Hid (Below w.heap.size w wx) ∧ Blk wx w1.heap.size 25 #[.int .i64 z.k, .int .i64 z.n, .string z.s])
    case first =>
      cases B with
      | true =>
        have HOK := Lib.hid (HBT.out rfl)
        obtain ⟨⟨a0, a1, a2⟩, ax⟩ := A3.three
        obtain ⟨⟨y0, y1, y2⟩, f0, f1, f2⟩ := Y3.three
        clear ax
        go_wp2_with fail
        go_meet
        case rel => exact ⟨⟨k, n, s⟩, HOK.out, HN.out, st3 W3.out hw1 _ _ _, Y3.three_set _ _ _⟩
      | false =>
        go_wp2_with fail
        go_meet
        case rel => exact ⟨y, HY.out, HYN.out, W3.out, Y3⟩
    case rest =>
      obtain ⟨z, HZ, HZN, HB4, Z4⟩ := hcut
      rename_i w4
      clear A3 Y3 W3 HY HYN HS W1
      obtain ⟨⟨z0, z1, z2⟩, zx⟩ := Z4.three
      clear zx
      go_wp2_with fail
      refine (String_right z.k z.n z.s _ (HG.out.thn HB4.out) HZ.out HZN.out).mono ?_
      rintro e w5 ⟨rfl, hb5⟩
      have W5 := Lib.hid (thn HB4.out hb5)
      have Z5 := Z4.below hb5 Z4.lt
      clear hb5 Z4 z0 z1 z2 HB4
      have hp := parses_strB z.k z.n z.s HZ.out HZN.out
      have hl := strB_len z.k z.n z.s HZ.out HZN.out
      have hr := readV_strB z.k z.n z.s HZ.out HZN.out
      generalize (⟨(strB z.k z.n z.s).toArray⟩ : ByteArray) = q at hp hl hr ⊢
      have HP := Lib.hid hp
      have HL := Lib.hid hl
      have HR := Lib.hid hr
      clear hp hl hr
      go_wp2_with fail
      refine (Parse_yes q _ (HG.out.thn W5.out) (by have := HL.out; omega) HP.out).mono ?_
      rw [HR.out]
      rintro e w6 ⟨rfl, hb6⟩
      have W6 := Lib.hid (thn W5.out hb6)
      obtain ⟨⟨z0, z1, z2⟩, zx⟩ := (Z5.below hb6 Z5.lt).three
      have hzz := veq_self z.k z.n z.s
      have hzlt := Nat.lt_of_lt_of_le Z5.lt hb6.size
      clear hb6 Z5 zx W5 HL HR HP
      go_wp2_with fail
      generalize hu : t.extract 0 (min (t.size : Int) 450).toNat = u
      have hus : u.size ≤ 450 := by
        rw [← hu, ByteArray.size_extract]; omega
      have HU := Lib.hid hus
      clear hu hus ht
      have W6' := Lib.hid (al W6.out (.cells #[.int .i64 z.k, .int .i64 z.n, .string z.s] 25))
      generalize w6.alloc (.cells #[.int .i64 z.k, .int .i64 z.n, .string z.s] 25) = w6' at *
      clear z0 z1 z2 hzlt W6
      by_cases hpu : parses u = true
      · obtain ⟨hk1, hk2⟩ := (parses_iff u).1 hpu
        have HK1 := Lib.hid hk1
        have HK2 := Lib.hid hk2
        have HPU := Lib.hid hpu
        clear hk1 hk2 hpu
        refine (Parse_yes u _ (HG.out.thn W6'.out) (by have := HU.out; omega) HPU.out).mono ?_
        rintro e w7 ⟨rfl, hb7⟩
        have W7 := Lib.hid (thn W6'.out hb7)
        have HRN := Lib.hid (readV_i64 u)
        have HRS := Lib.hid (readV_size u)
        generalize readV u = x at *
        clear hb7 HPU
        go_wp2_with fail
        refine (String_right x.k x.n x.s _ (HG.out.thn (al W7.out _)) HK1.out HRN.out).mono ?_
        rw [HK2.out]
        rintro e w8 ⟨rfl, hb8⟩
        have W8 := Lib.hid (thn (al W7.out _) hb8)
        have X8 := (Blk.new' (w := w7) (g := w7.heap.size) (t := 25) (cs := #[.int .i64 x.k, .int .i64 x.n, .string x.s]) rfl).below hb8 (by simp)
        obtain ⟨⟨x0, x1, x2⟩, xx⟩ := X8.three
        clear hb8 xx X8
        have huu : (u.toList == u.toList) = true := beq_self_eq_true _
        go_wp2_with fail
        refine (Check_any x.k x.n x.s _ (by have := HRS.out; have := HU.out; unfold maxLen; omega)).mono ?_
        have hc0 : chk [⟨x.k, x.n, x.s⟩] = 0 := chk_one_ok HK1.out
        rw [hc0]
        rintro e w9 ⟨rfl, hb9⟩
        have W9 := Lib.hid (thn W8.out hb9)
        clear hb9 x0 x1 x2
        go_wp2_with fail
        refine (awake_any _ (HG.out.thn W9.out)).mono ?_
        rintro e w10 ⟨rfl, hb10⟩
        go_wp2_with fail
        go_ret
        exact ⟨rfl, thn W9.out hb10⟩
      · have hpu0 : parses u = false := by simpa using hpu
        have HPU := Lib.hid hpu0
        clear hpu hpu0
        refine (Parse_no u _ (HG.out.thn W6'.out) (by have := HU.out; omega) HPU.out).mono ?_
        rintro e w7 ⟨rfl, hb7⟩
        have W7 := Lib.hid (thn W6'.out hb7)
        have hz : veq 0 0 ⟨#[]⟩ 0 0 ⟨#[]⟩ = true := veq_self _ _ _
        clear hb7
        go_wp2_with fail
        refine (awake_any _ (HG.out.thn (al W7.out _))).mono ?_
        rintro e w8 ⟨rfl, hb8⟩
        go_wp2_with fail
        go_ret
        exact ⟨rfl, thn (al W7.out _) hb8⟩
end Go.Proofs.YtmhddoikicapjaaDoor
