/-
  CONTRACT of the statements' own helper awake: true, whatever came before.
-/
import Derived.Test.YtmhddoikicapjaaGreatDoorVal10
import Derived.Deep.RegionHeld3
namespace Go.Proofs.YtmhddoikicapjaaGreatDoor
open Go.RowKit

theorem rNull_exact (w : World) :
    Calls Tryz.prog 24 #[] w fun e w' => e = .returned (.agg #[.int .i64 0, .int .i64 0, .string ⟨#[]⟩]) ∧ w' = w.alloc (.cells #[.int .i64 0, .int .i64 0, .string ⟨#[]⟩] 35) := by
  go_enter Tryz.func24, Tryz.ntmps24
  go_wp2
  exact bodyPost_ret (v := .agg #[.int .i64 0, .int .i64 0, .string ⟨#[]⟩]) (by simp [results, Tryz.results24, go_sem]) rfl ⟨rfl, rfl⟩
theorem rFalse_exact (w : World) :
    Calls Tryz.prog 29 #[.bool false] w fun e w' => e = .returned (.agg #[.int .i64 2, .int .i64 0, .string ⟨#[]⟩]) ∧ w' = w.alloc (.cells #[.int .i64 2, .int .i64 0, .string ⟨#[]⟩] 35) := by
  go_enter Tryz.func29, Tryz.ntmps29
  go_wp2
  exact bodyPost_ret (v := .agg #[.int .i64 2, .int .i64 0, .string ⟨#[]⟩]) (by simp [results, Tryz.results29, go_sem]) rfl ⟨rfl, rfl⟩

theorem decDigits_7 : Lib.decDigits 7 = [55] := by rw [Lib.decDigits]; rfl
theorem parse_007 : Lib.parseIntB 64 [48, 48, 55] = .ok 7 := by decide +kernel
theorem read_007 : readV ⟨#[48, 48, 55]⟩ = ⟨1, 7, ⟨#[]⟩⟩ := by
  have h : numV ⟨#[48, 48, 55]⟩ = 7 := by
    unfold numV
    have e : (⟨#[48, 48, 55]⟩ : ByteArray).data.toList = [48, 48, 55] := rfl
    rw [e, parse_007]
  unfold readV
  rw [if_neg (by decide), if_neg (by decide), if_neg (by decide), if_neg (by decide), if_neg (by decide), h]
theorem parses_007 : parses ⟨#[48, 48, 55]⟩ = false := by
  unfold parses
  rw [read_007]
  have e : strB 1 7 ⟨#[]⟩ = [55] := by
    show Lib.itoa 7 = _
    unfold Lib.itoa
    rw [if_neg (by decide)]
    exact decDigits_7
  rw [e, ByteArray.toList_eq, ByteArray.toList_eq]
  decide
theorem str_its : strB 3 0 ⟨#[105, 116, 39, 115]⟩ = [39, 105, 116, 39, 39, 115, 39] := by
  have e : Lib.replaceAll [105, 116, 39, 115] [39] [39, 39] = [105, 116, 39, 39, 115] := by decide +kernel
  show 39 :: (Lib.replaceAll [105, 116, 39, 115] [39] [39, 39] ++ [39]) = _
  rw [e]; rfl

theorem join_tn : joinV false [⟨2, b2i true, ⟨#[]⟩⟩, ⟨0, 0, ⟨#[]⟩⟩] = ⟨0, 0, ⟨#[]⟩⟩ := by
  unfold joinV
  rw [if_neg, if_pos]
  · decide
  · simp [V.isE, veq, b2i]
theorem join_nil : joinV true [] = ⟨2, 0, ⟨#[]⟩⟩ := rfl

set_option maxHeartbeats 1000000 in
theorem awake_any (w : World) (hG : G w) :
    Calls Tryz.prog 11 #[] w fun e w' => e = .returned (.bool true) ∧ Below w.heap.size w w' := by
  have HG := Lib.hid hG
  clear hG
  go_enter Tryz.func11, Tryz.ntmps11
  go_wp2_with fail
  refine (rNull_any _).mono ?_
  rintro e w1 ⟨rfl, hb1⟩
  have W1 := Lib.hid hb1
  clear hb1
  go_wp2_with fail
  refine (rInt_any _ _).mono ?_
  rintro e w2 ⟨rfl, hb2⟩
  have W2 := Lib.hid (thn W1.out hb2)
  clear hb2
  go_wp2_with fail
  refine (Compare_ok _ _ _ _ _ _ _ (by simp [maxLen, ByteArray.size]) (by simp [maxLen, ByteArray.size]) (by decide)).mono ?_
  rintro e w3 ⟨rfl, hb3⟩
  have W3 := Lib.hid (thn W2.out hb3)
  clear hb3
  have hcv : cmpV 0 0 ⟨#[]⟩ 1 (-5) ⟨#[]⟩ = -1 := by decide
  rw [hcv]
  go_wp2_with fail
  refine (rText_any _ _).mono ?_
  rintro e w4 ⟨rfl, hb4⟩
  have W4 := Lib.hid (thn W3.out hb4)
  clear hb4
  go_wp2_with fail
  refine (String_right _ _ _ _ (HG.out.thn W4.out) (by decide) ⟨by decide, by decide⟩).mono ?_
  rw [str_its]
  rintro e w5 ⟨rfl, hb5⟩
  have W5 := Lib.hid (thn W4.out hb5)
  clear hb5
  go_wp2_with fail
  refine (Parse_no _ _ (HG.out.thn W5.out) (by decide) parses_007).mono ?_
  rintro e w6 ⟨rfl, hb6⟩
  have W6 := Lib.hid (thn W5.out hb6)
  clear hb6
  go_wp2_with fail
  refine (rBool_any _ _).mono ?_
  rintro e w7 ⟨rfl, hb7⟩
  have W7 := Lib.hid (thn (al W6.out _) hb7)
  clear hb7
  go_wp2_with fail
  refine (rNull_any _).mono ?_
  rintro e w8 ⟨rfl, hb8⟩
  have W8 := Lib.hid (thn W7.out hb8)
  clear hb8
  go_wp2_with fail
  refine (And_ok _ _ [⟨2, b2i true, ⟨#[]⟩⟩, ⟨0, 0, ⟨#[]⟩⟩] _ (VReads.two (Blk.new' rfl) (by simp)) (VFit.two (by simp [maxLen, ByteArray.size]) (by simp [maxLen, ByteArray.size])) (by simp [maxLen]) (by decide)).mono ?_
  rw [join_tn]
  rintro e w9 ⟨rfl, hb9⟩
  have W9 := Lib.hid (thn (al W8.out _) hb9)
  clear hb9
  go_wp2_with fail
  refine (Or_ok _ _ [] _ (fun h => absurd h (by simp)) (fun v hv => by cases hv) (by simp [maxLen]) (by decide)).mono ?_
  rw [join_nil]
  rintro e w10 ⟨rfl, hb10⟩
  have W10 := Lib.hid (thn (al W9.out _) hb10)
  have B7 := (Blk.new' (w := w9) (g := w9.heap.size) (t := 35) (cs := #[.int .i64 0, .int .i64 0, .string ⟨#[]⟩]) rfl).below hb10 (by simp)
  have hz : w9.heap.size < w10.heap.size := B7.lt
  have hza : w9.heap.size < w10.heap.size + 1 := by omega
  have hzb : w9.heap.size < w10.heap.size + 1 + 1 := by omega
  have hzc : w9.heap.size < w10.heap.size + 1 + 1 + 1 := by omega
  obtain ⟨⟨s0, s1, s2⟩, sx⟩ := B7.three
  clear hb10 sx B7
  have heq := @eqV
  have hn : veq 0 0 ⟨#[]⟩ 0 0 ⟨#[]⟩ = true := by simp [veq]
  have hf : veq 2 0 ⟨#[]⟩ 2 0 ⟨#[]⟩ = true := by simp [veq]
  go_wp2_with fail
  go_region_held3 (fun w' => w'.cell? ⟨w9.heap.size, 0, none⟩ = some (.int .i64 0) ∧ w'.cell? ⟨w9.heap.size, 1, none⟩ = some (.int .i64 0) ∧ w'.cell? ⟨w9.heap.size, 2, none⟩ = some (.string ⟨#[]⟩) ∧ w'.cell? ⟨w10.heap.size, 0, none⟩ = some (.int .i64 2) ∧ w'.cell? ⟨w10.heap.size, 1, none⟩ = some (.int .i64 0) ∧ w'.cell? ⟨w10.heap.size, 2, none⟩ = some (.string ⟨#[]⟩)) (simp [go_sem, World.cell?_alloc_past, *])
    (first
      | (go_at_call 24; refine (rNull_exact _).mono ?_; rintro e w' ⟨rfl, rfl⟩)
      | (go_at_call 29; refine (rFalse_exact _).mono ?_; rintro e w' ⟨rfl, rfl⟩))
  go_wp2_with fail
  go_ret
  exact ⟨rfl, (al (al (al W10.out _) _) _).drew⟩
end Go.Proofs.YtmhddoikicapjaaGreatDoor
