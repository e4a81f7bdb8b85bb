/-
  THE WALK of TokenWords: IsName and IsWord of any string, and Words.
-/
import Derived.Test.YtphgbfgccagcbaaGreatDoorGA11
import Derived.Test.YtphgbfgccagcbaaGreatDoorPkU
import Derived.Test.YtphgbfgccagcbaaGreatDoorReg
namespace Go.Proofs.YtphgbfgccagcbaaGreatDoor
open Go.RowKit

theorem words_wd : ∀ x ∈ wordsB, isWd x.data.toList = true := fun x hx => List.any_eq_true.2 ⟨x, hx, by simp⟩
theorem words_nm : ∀ x ∈ wordsB, isNm x.data.toList = false := fun x hx => by unfold isNm; rw [words_wd x hx]; simp
theorem words_sz : ∀ x ∈ wordsB, x.size ≤ 20000 := fun x hx => by
  have h : (wordsB.all fun x => decide (x.size ≤ 20000)) = true := by decide +kernel
  exact of_decide_eq_true (List.all_eq_true.1 h x hx)
theorem TReads.aft {W : World} {A : Option Addr} {l : List ByteArray} (h : TReads W W.heap.size A l) {i : Nat} (hi : i < l.length) : ∃ b o, A = some ⟨b, o, none⟩ ∧ ∀ x : Aft W, x.w.cell? ⟨b, o + i, none⟩ = some (.string l[i]) := by
  obtain ⟨b, o, rfl, hb, hc⟩ := h.at_ hi
  exact ⟨b, o, rfl, fun x => (x.h.cell (p := ⟨b, _, none⟩) hb).trans hc⟩
set_option maxHeartbeats 4000000 in
set_option maxRecDepth 100000 in
theorem TokenWords_any (s : ByteArray) (w : World) (hG : GT w) (hs : s.size ≤ maxLen) :
    Calls Tryz.prog 4 #[.string s] w fun e w' => e = .returned (.bool true) ∧ Below w.heap.size w w' := by
  have HG := Lib.hid hG
  have HL := Lib.hid wordsB_len
  have HWs := Lib.hid (And.intro words_wd (And.intro words_nm words_sz))
  have hs := Nat.le_trans hs (Nat.le_refl _)
  unfold maxLen at hs
  clear hG
  by_cases hle : (s.size : Int) ≤ 100
  · have hmn : min (s.size : Int) 100 = (s.size : Int) := by omega
    go_enter Tryz.func4, Tryz.ntmps4
    go_wp2_with fail
    have hu : s.size ≤ 100 := by omega
    obtain ⟨u, rfl⟩ : ∃ u : ByteArray, u = s := ⟨s, rfl⟩
    clear hle
    refine (PWords_any w HG.out).mono ?_
    rintro e w1 ⟨A, c, rfl, hr, hb⟩
    have H1 := Lib.hid (And.intro hr hb)
    clear hr hb
    go_wp2_with fail
    refine (Words8_any w1).mono ?_
    rintro e w2 ⟨g, rfl, hB, hb⟩
    have H2 := Lib.hid (And.intro (H1.out.1.below hb hb.size) (And.intro (TReads.new hB) (thn H1.out.2 hb)))
    clear hB hb H1
    go_wp2_with fail
    go_loopw [6] (fun i wr => ∃ k : Nat, k ≤ 41 ∧ i = .int .i64 k ∧ Hid (Below w2.heap.size w2 wr)) (fun i _ => 41 - (intOf i).toNat)
    case atStart => exact ⟨0, by decide, rfl, Lib.hid (Below.refl _ _)⟩
    case round =>
      obtain ⟨k, hk, rfl, HI⟩ := hrel
      have HGr := Lib.hid (HG.out.thn (thn H2.out.2.2 HI.out))
      by_cases hlt : k < 41
      · have hlw : k < wordsB.length := by rw [HL.out]; exact hlt
        have hlti : (k : Int) < 41 := by omega
        obtain ⟨b, o, rfl, hX1⟩ := (H2.out.1.below HI.out HI.out.size).aft hlw
        obtain ⟨b', o', e, hX2⟩ := (H2.out.2.1.below HI.out HI.out.size).aft hlw
        injection e with e
        injection e with e1 e2 _
        subst e1 e2
        rw [Nat.zero_add] at hX2
        have hm := List.getElem_mem hlw
        have HX3 : Hid (∀ x : Aft wr, Calls Tryz.prog 13 #[.string wordsB[k]] x.w fun e w' => e = .returned (.bool true) ∧ Below x.w.heap.size x.w w') := Lib.hid fun x => by
          have h := PIsWord_any wordsB[k] x.w (HGr.out.thn x.h) (HWs.out.2.2 _ hm)
          rw [HWs.out.1 _ hm] at h
          exact h
        have HX4 : Hid (∀ x : Aft wr, Calls Tryz.prog 14 #[.string wordsB[k]] x.w fun e w' => e = .returned (.bool false) ∧ Below x.w.heap.size x.w w') := Lib.hid fun x => by
          have h := PIsName_any wordsB[k] x.w (HGr.out.thn x.h) (HWs.out.2.2 _ hm)
          rw [HWs.out.2.1 _ hm] at h
          exact h
        clear hm
        generalize wordsB[k] = y at *
        go_wp2_with fail
        refine region_aft (by kernel_rfl) (by kernel_rfl) ?_
        repeat (go_big_quiet_step ((first | (with_reducible exact aft_call (HX3.out _)) | (with_reducible exact aft_call (HX4.out _)))))
        refine wpQuiet_nil ?_
        intro x9
        have HZ9 := Lib.hid (thn HI.out x9.h)
        clear hX1 hX2 HX3 HX4
        go_wp2_with fail
        go_roundw
        case rel => exact ⟨k + 1, by omega, by go_num, HZ9⟩
        case measure => simp [intOf]; omega
      · have hlf : decide ((k : Int) < (41 : Int)) = false := decide_eq_false (by omega)
        have HB := Lib.hid (thn H2.out.2.2 HI.out)
        go_wp2_with fail
        refine (PIsName_any u wr HGr.out (by omega)).mono ?_
        rintro e w3 ⟨rfl, hb⟩
        have H3 := Lib.hid (thn HB.out hb)
        clear hb
        go_wp2_with fail
        refine (IsName8_any u w3 (by unfold maxLen; omega)).mono ?_
        rintro e w4 ⟨rfl, hb⟩
        have H4 := Lib.hid (thn H3.out hb)
        have HG4 := Lib.hid (HG.out.thn H4.out)
        clear hb
        go_wp2_with fail
        refine (PIsWord_any u w4 HG4.out (by omega)).mono ?_
        rintro e w5 ⟨rfl, hb⟩
        have H5 := Lib.hid (thn H4.out hb)
        clear hb
        go_wp2_with fail
        refine (IsWord8_any u w5).mono ?_
        rintro e w6 ⟨rfl, hb⟩
        have H6 := Lib.hid (thn H5.out hb)
        have HG6 := Lib.hid (HG.out.thn H6.out)
        clear hb
        go_wp2_with fail
        refine (awake8_any _ HG6.out).mono ?_
        rintro e w7 ⟨rfl, hb⟩
        have H7 := Lib.hid (thn H6.out hb)
        clear hb
        go_wp2_with fail
        go_ret
        exact ⟨rfl, H7.out⟩
  · have hgt : (100 : Int) < (s.size : Int) := by omega
    have hmn : min (s.size : Int) 100 = 100 := by omega
    go_enter Tryz.func4, Tryz.ntmps4
    go_wp2_with fail
    have hu : (s.extract 0 100).size ≤ 100 := by rw [ByteArray.size_extract]; omega
    generalize s.extract 0 100 = u at *
    clear hle hgt
    refine (PWords_any w HG.out).mono ?_
    rintro e w1 ⟨A, c, rfl, hr, hb⟩
    have H1 := Lib.hid (And.intro hr hb)
    clear hr hb
    go_wp2_with fail
    refine (Words8_any w1).mono ?_
    rintro e w2 ⟨g, rfl, hB, hb⟩
    have H2 := Lib.hid (And.intro (H1.out.1.below hb hb.size) (And.intro (TReads.new hB) (thn H1.out.2 hb)))
    clear hB hb H1
    go_wp2_with fail
    go_loopw [6] (fun i wr => ∃ k : Nat, k ≤ 41 ∧ i = .int .i64 k ∧ Hid (Below w2.heap.size w2 wr)) (fun i _ => 41 - (intOf i).toNat)
    case atStart => exact ⟨0, by decide, rfl, Lib.hid (Below.refl _ _)⟩
    case round =>
      obtain ⟨k, hk, rfl, HI⟩ := hrel
      have HGr := Lib.hid (HG.out.thn (thn H2.out.2.2 HI.out))
      by_cases hlt : k < 41
      · have hlw : k < wordsB.length := by rw [HL.out]; exact hlt
        have hlti : (k : Int) < 41 := by omega
        obtain ⟨b, o, rfl, hX1⟩ := (H2.out.1.below HI.out HI.out.size).aft hlw
        obtain ⟨b', o', e, hX2⟩ := (H2.out.2.1.below HI.out HI.out.size).aft hlw
        injection e with e
        injection e with e1 e2 _
        subst e1 e2
        rw [Nat.zero_add] at hX2
        have hm := List.getElem_mem hlw
        have HX3 : Hid (∀ x : Aft wr, Calls Tryz.prog 13 #[.string wordsB[k]] x.w fun e w' => e = .returned (.bool true) ∧ Below x.w.heap.size x.w w') := Lib.hid fun x => by
          have h := PIsWord_any wordsB[k] x.w (HGr.out.thn x.h) (HWs.out.2.2 _ hm)
          rw [HWs.out.1 _ hm] at h
          exact h
        have HX4 : Hid (∀ x : Aft wr, Calls Tryz.prog 14 #[.string wordsB[k]] x.w fun e w' => e = .returned (.bool false) ∧ Below x.w.heap.size x.w w') := Lib.hid fun x => by
          have h := PIsName_any wordsB[k] x.w (HGr.out.thn x.h) (HWs.out.2.2 _ hm)
          rw [HWs.out.2.1 _ hm] at h
          exact h
        clear hm
        generalize wordsB[k] = y at *
        go_wp2_with fail
        refine region_aft (by kernel_rfl) (by kernel_rfl) ?_
        repeat (go_big_quiet_step ((first | (with_reducible exact aft_call (HX3.out _)) | (with_reducible exact aft_call (HX4.out _)))))
        refine wpQuiet_nil ?_
        intro x9
        have HZ9 := Lib.hid (thn HI.out x9.h)
        clear hX1 hX2 HX3 HX4
        go_wp2_with fail
        go_roundw
        case rel => exact ⟨k + 1, by omega, by go_num, HZ9⟩
        case measure => simp [intOf]; omega
      · have hlf : decide ((k : Int) < (41 : Int)) = false := decide_eq_false (by omega)
        have HB := Lib.hid (thn H2.out.2.2 HI.out)
        go_wp2_with fail
        refine (PIsName_any u wr HGr.out (by omega)).mono ?_
        rintro e w3 ⟨rfl, hb⟩
        have H3 := Lib.hid (thn HB.out hb)
        clear hb
        go_wp2_with fail
        refine (IsName8_any u w3 (by unfold maxLen; omega)).mono ?_
        rintro e w4 ⟨rfl, hb⟩
        have H4 := Lib.hid (thn H3.out hb)
        have HG4 := Lib.hid (HG.out.thn H4.out)
        clear hb
        go_wp2_with fail
        refine (PIsWord_any u w4 HG4.out (by omega)).mono ?_
        rintro e w5 ⟨rfl, hb⟩
        have H5 := Lib.hid (thn H4.out hb)
        clear hb
        go_wp2_with fail
        refine (IsWord8_any u w5).mono ?_
        rintro e w6 ⟨rfl, hb⟩
        have H6 := Lib.hid (thn H5.out hb)
        have HG6 := Lib.hid (HG.out.thn H6.out)
        clear hb
        go_wp2_with fail
        refine (awake8_any _ HG6.out).mono ?_
        rintro e w7 ⟨rfl, hb⟩
        have H7 := Lib.hid (thn H6.out hb)
        clear hb
        go_wp2_with fail
        go_ret
        exact ⟨rfl, H7.out⟩
end Go.Proofs.YtphgbfgccagcbaaGreatDoor
