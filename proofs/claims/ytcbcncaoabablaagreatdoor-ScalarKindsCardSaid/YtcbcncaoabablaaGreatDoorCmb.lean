/-
  CONTRACT of the reference's Combined.
-/
import Derived.Test.YtcbcncaoabablaaGreatDoorRAl
import Derived.Deep.RegionHeld3
namespace Go.Proofs.YtcbcncaoabablaaGreatDoor
open Go.RowKit Go.Deep

theorem anyN_take {l : List Co} {i : Nat} (h : i < l.length) : anyN (l.take (i + 1)) = (anyN (l.take i) || l[i].2) := by
  unfold anyN
  rw [List.take_succ_eq_append_getElem h, List.any_append]
  simp
theorem allN_take {l : List Co} {i : Nat} (h : i < l.length) : (l.take (i + 1)).all Prod.snd = ((l.take i).all Prod.snd && l[i].2) := by
  rw [List.take_succ_eq_append_getElem h, List.all_append]
  simp
theorem fstK_zero {l : List Co} (h : 0 < l.length) : fstK l = l[0].1 := by
  cases l with
  | nil => cases h
  | cons x r => rfl
set_option maxHeartbeats 16000000 in
set_option maxRecDepth 100000 in
theorem CombinedR_any (op n m kind lk ln : Int) (ls : ByteArray) (A R : Option Addr) (an rn c d : Nat) (cs : List Co) (Ac : Option Addr) (cc : Nat) (w : World)
    (hC : KReads w w.heap.size Ac cs) (hn : cs.length ≤ 1000000) (h3 : 3 ≤ op) (h25 : op ≤ 25) (h0 : 4 ≤ op → 0 < cs.length) (ho : op = 24 → cs.length % 2 = 1) :
    Calls Tryz.prog 53 #[.agg #[.int .i64 op, .int .i64 n, .int .i64 m, .int .i64 kind, .int .i64 lk, .int .i64 ln, .string ls, .slice A an c, .slice R rn d], .slice Ac cs.length cc] w fun x w' => x = .returned (.tuple #[.agg #[.int .i64 (combC op kind lk cs).1.1, .bool (combC op kind lk cs).1.2], .bool (combC op kind lk cs).2]) ∧ Below w.heap.size w w' := by
  have HA : Hid (∀ k w1, Below w.heap.size w w1 → Calls Tryz.prog 80 #[.slice Ac cs.length cc, .int .i64 k] w1 fun x w' => x = .returned (.bool (allK cs k)) ∧ w' = w1) := Lib.hid fun k w1 hb => all_any k Ac cc cs w1 (hC.below hb hb.size) hn
  have HC : Hid (cs.length % 2 = 1 → ∀ w1, Below w.heap.size w w1 → Calls Tryz.prog 81 #[.slice Ac cs.length cc] w1 fun x w' => x = .returned (.tuple #[.agg #[.int .i64 (combC 24 kind lk cs).1.1, .bool (combC 24 kind lk cs).1.2], .bool (combC 24 kind lk cs).2]) ∧ Below w1.heap.size w1 w') := Lib.hid fun ho w1 hb => cases_any Ac cc cs kind lk w1 (hC.below hb hb.size) hn ho
  have HHd : Hid (4 ≤ op → ∃ b o, Ac = some ⟨b, o, none⟩ ∧ b < w.heap.size ∧ w.cell? ⟨b, o, none⟩ = some (.int .i64 (fstK cs)) ∧ (0 : Int) < (cs.length : Int)) := Lib.hid fun h4 => by
    have hl := h0 h4
    obtain ⟨b, o, e, hblk, c0, c1⟩ := hC.at_ hl
    refine ⟨b, o, e, hblk, ?_, by omega⟩
    rw [Nat.zero_mul, Nat.add_zero] at c0
    rw [c0, fstK_zero hl]
  have HOdd := Lib.hid ho
  have HH := Lib.hid (And.intro hC hn)
  have H0 : Hid (Below w.heap.size w ((w.alloc (.cells #[.int .i64 op, .int .i64 n, .int .i64 m, .int .i64 kind, .int .i64 lk, .int .i64 ln, .string ls, .slice A an c, .slice R rn d] 29)).alloc (.cells #[.int .i64 0, .bool false] 50)) ∧ Blk ((w.alloc (.cells #[.int .i64 op, .int .i64 n, .int .i64 m, .int .i64 kind, .int .i64 lk, .int .i64 ln, .string ls, .slice A an c, .slice R rn d] 29)).alloc (.cells #[.int .i64 0, .bool false] 50)) w.heap.size 29 #[.int .i64 op, .int .i64 n, .int .i64 m, .int .i64 kind, .int .i64 lk, .int .i64 ln, .string ls, .slice A an c, .slice R rn d] ∧ Blk ((w.alloc (.cells #[.int .i64 op, .int .i64 n, .int .i64 m, .int .i64 kind, .int .i64 lk, .int .i64 ln, .string ls, .slice A an c, .slice R rn d] 29)).alloc (.cells #[.int .i64 0, .bool false] 50)) (w.heap.size + 1) 50 #[.int .i64 0, .bool false]) := Lib.hid ⟨al (al (Below.refl _ _) _) _, (Blk.new w _ _).alloc _, Blk.new' (by simp)⟩
  clear h0 ho hC
  go_enter Tryz.func53, Tryz.ntmps53
  go_wp2_with fail
  go_loopw [6, 7] (fun nv iv wr => ∃ i : Nat, i ≤ cs.length ∧ iv = .int .i64 i ∧ nv = .bool (anyN (cs.take i)) ∧ Hid (Below w.heap.size w wr ∧ Blk wr w.heap.size 29 #[.int .i64 op, .int .i64 n, .int .i64 m, .int .i64 kind, .int .i64 lk, .int .i64 ln, .string ls, .slice A an c, .slice R rn d] ∧ Blk wr (w.heap.size + 1) 50 #[.int .i64 0, .bool false])) (fun _ iv _ => cs.length - (intOf iv).toNat)
  case atStart => exact ⟨0, Nat.zero_le _, rfl, by rw [List.take_zero]; rfl, H0⟩
  case round =>
    clear H0
    obtain ⟨i, hi, rfl, rfl, HW⟩ := hrel
    by_cases hlt : i < cs.length
    · have hlti : (i : Int) < (cs.length : Int) := by omega
      have hi0 : (0 : Int) ≤ (i : Int) := by omega
      obtain ⟨b, o, rfl, hb, c0, c1⟩ := (HH.out.1.below HW.out.1 HW.out.1.size).at_ hlt
      have HT := Lib.hid (anyN_take hlt)
      clear HA HC HHd h3 h25
      generalize cs[i] = ci at *
      generalize hq : anyN (cs.take i) = q at *
      cases q
      · have HN : Hid (anyN (cs.take (i + 1)) = ci.2) := Lib.hid (by rw [HT.out, Bool.false_or])
        clear HT hq
        go_wp2_with fail
        go_roundw
        case rel => exact ⟨i + 1, by omega, by go_num, by rw [HN.out], HW⟩
        case measure => simp [intOf]; omega
      · have HN : Hid (anyN (cs.take (i + 1)) = true) := Lib.hid (by rw [HT.out, Bool.true_or])
        clear HT hq
        go_wp2_with fail
        go_roundw
        case rel => exact ⟨i + 1, by omega, by go_num, by rw [HN.out], HW⟩
        case measure => simp [intOf]; omega
    have hlf : decide ((i : Int) < (cs.length : Int)) = false := decide_eq_false (by omega)
    rw [List.take_of_length_le (by omega)]
    have a0 := HW.out.2.1
    have hz := HW.out.2.2
    have x0 := a0.cell 0
    have x3 := a0.cell 3
    have x4 := a0.cell 4
    have z0 := hz.cell 0
    have z1 := hz.cell 1
    simp only [List.getElem?_toArray, List.getElem?_cons_succ, List.getElem?_cons_zero] at x0 x3 x4 z0 z1
    have fz0 := hz.frozen 0
    have fz1 := hz.frozen 1
    have hzl := hz.lt
    have hal := a0.lt
    clear a0 hz
    have hop : op = 3 ∨ op = 4 ∨ op = 5 ∨ op = 6 ∨ op = 7 ∨ op = 8 ∨ op = 9 ∨ op = 10 ∨ op = 11 ∨ op = 12 ∨ op = 13 ∨ op = 14 ∨ op = 15 ∨ op = 16 ∨ op = 17 ∨ op = 18 ∨ op = 19 ∨ op = 20 ∨ op = 21 ∨ op = 22 ∨ op = 23 ∨ op = 24 ∨ op = 25 := by omega
    clear h3 h25
    rcases hop with rfl | rfl | rfl | rfl | rfl | rfl | rfl | rfl | rfl | rfl | rfl | rfl | rfl | rfl | rfl | rfl | rfl | rfl | rfl | rfl | rfl | rfl | rfl
    · have HN : Hid (combC 3 kind lk cs = ((kind, lk == 0), true)) := Lib.hid (by simp [combC])
      clear HA HC HHd
      have HZ := Lib.hid (((HW.out.2.2.set_ 0 (.int .i64 kind)).set_ 1 (.bool (lk == 0))))
      have HZb : Hid (Below w.heap.size w ((wr.setCell ⟨w.heap.size + 1, 0, none⟩ (.int .i64 kind)).setCell ⟨w.heap.size + 1, 1, none⟩ (.bool (lk == 0)))) := Lib.hid ((HW.out.1.setCell (p := ⟨w.heap.size + 1, 0, none⟩) (by simp <;> omega) _).setCell (p := ⟨w.heap.size + 1, 1, none⟩) (by simp <;> omega) _)
      go_wp2_with fail
      have k0 := HZ.out.cell 0
      have k1 := HZ.out.cell 1
      simp at k0 k1
      exact bodyPost_ret (v := .tuple #[.agg #[.int .i64 kind, .bool (lk == 0)], .bool true]) (by simp [results, Tryz.results53, go_sem, k0, k1]) rfl ⟨by rw [HN.out], HZb.out⟩
    · have HN : Hid (combC 4 kind lk cs = ((1, (anyN cs)), allK cs 1)) := Lib.hid (by simp [combC])
      have HX := HA.out 1 wr HW.out.1
      clear HA HC HHd
      generalize allK cs 1 = ak at *
      generalize anyN cs = nn at *
      go_wp2_with fail
      refine HX.mono ?_
      rintro x w2 ⟨rfl, rfl⟩
      clear HX
      have HZ := Lib.hid (((HW.out.2.2.set_ 0 (.int .i64 1)).set_ 1 (.bool nn)))
      have HZb : Hid (Below w.heap.size w ((w2.setCell ⟨w.heap.size + 1, 0, none⟩ (.int .i64 1)).setCell ⟨w.heap.size + 1, 1, none⟩ (.bool nn))) := Lib.hid ((HW.out.1.setCell (p := ⟨w.heap.size + 1, 0, none⟩) (by simp <;> omega) _).setCell (p := ⟨w.heap.size + 1, 1, none⟩) (by simp <;> omega) _)
      go_wp2_with fail
      have k0 := HZ.out.cell 0
      have k1 := HZ.out.cell 1
      simp at k0 k1
      exact bodyPost_ret (v := .tuple #[.agg #[.int .i64 1, .bool nn], .bool ak]) (by simp [results, Tryz.results53, go_sem, k0, k1]) rfl ⟨by rw [HN.out], HZb.out⟩
    · have HN : Hid (combC 5 kind lk cs = ((1, (anyN cs)), allK cs 1)) := Lib.hid (by simp [combC])
      have HX := HA.out 1 wr HW.out.1
      clear HA HC HHd
      generalize allK cs 1 = ak at *
      generalize anyN cs = nn at *
      go_wp2_with fail
      refine HX.mono ?_
      rintro x w2 ⟨rfl, rfl⟩
      clear HX
      have HZ := Lib.hid (((HW.out.2.2.set_ 0 (.int .i64 1)).set_ 1 (.bool nn)))
      have HZb : Hid (Below w.heap.size w ((w2.setCell ⟨w.heap.size + 1, 0, none⟩ (.int .i64 1)).setCell ⟨w.heap.size + 1, 1, none⟩ (.bool nn))) := Lib.hid ((HW.out.1.setCell (p := ⟨w.heap.size + 1, 0, none⟩) (by simp <;> omega) _).setCell (p := ⟨w.heap.size + 1, 1, none⟩) (by simp <;> omega) _)
      go_wp2_with fail
      have k0 := HZ.out.cell 0
      have k1 := HZ.out.cell 1
      simp at k0 k1
      exact bodyPost_ret (v := .tuple #[.agg #[.int .i64 1, .bool nn], .bool ak]) (by simp [results, Tryz.results53, go_sem, k0, k1]) rfl ⟨by rw [HN.out], HZb.out⟩
    · have HN : Hid (combC 6 kind lk cs = ((1, (anyN cs)), allK cs 1)) := Lib.hid (by simp [combC])
      have HX := HA.out 1 wr HW.out.1
      clear HA HC HHd
      generalize allK cs 1 = ak at *
      generalize anyN cs = nn at *
      go_wp2_with fail
      refine HX.mono ?_
      rintro x w2 ⟨rfl, rfl⟩
      clear HX
      have HZ := Lib.hid (((HW.out.2.2.set_ 0 (.int .i64 1)).set_ 1 (.bool nn)))
      have HZb : Hid (Below w.heap.size w ((w2.setCell ⟨w.heap.size + 1, 0, none⟩ (.int .i64 1)).setCell ⟨w.heap.size + 1, 1, none⟩ (.bool nn))) := Lib.hid ((HW.out.1.setCell (p := ⟨w.heap.size + 1, 0, none⟩) (by simp <;> omega) _).setCell (p := ⟨w.heap.size + 1, 1, none⟩) (by simp <;> omega) _)
      go_wp2_with fail
      have k0 := HZ.out.cell 0
      have k1 := HZ.out.cell 1
      simp at k0 k1
      exact bodyPost_ret (v := .tuple #[.agg #[.int .i64 1, .bool nn], .bool ak]) (by simp [results, Tryz.results53, go_sem, k0, k1]) rfl ⟨by rw [HN.out], HZb.out⟩
    · have HN : Hid (combC 7 kind lk cs = ((1, true), allK cs 1)) := Lib.hid (by simp [combC])
      have HX := HA.out 1 wr HW.out.1
      clear HA HC HHd
      generalize allK cs 1 = ak at *
      generalize anyN cs = nn at *
      go_wp2_with fail
      refine HX.mono ?_
      rintro x w2 ⟨rfl, rfl⟩
      clear HX
      have HZ := Lib.hid (((HW.out.2.2.set_ 0 (.int .i64 1)).set_ 1 (.bool true)))
      have HZb : Hid (Below w.heap.size w ((w2.setCell ⟨w.heap.size + 1, 0, none⟩ (.int .i64 1)).setCell ⟨w.heap.size + 1, 1, none⟩ (.bool true))) := Lib.hid ((HW.out.1.setCell (p := ⟨w.heap.size + 1, 0, none⟩) (by simp <;> omega) _).setCell (p := ⟨w.heap.size + 1, 1, none⟩) (by simp <;> omega) _)
      go_wp2_with fail
      have k0 := HZ.out.cell 0
      have k1 := HZ.out.cell 1
      simp at k0 k1
      exact bodyPost_ret (v := .tuple #[.agg #[.int .i64 1, .bool true], .bool ak]) (by simp [results, Tryz.results53, go_sem, k0, k1]) rfl ⟨by rw [HN.out], HZb.out⟩
    · have HN : Hid (combC 8 kind lk cs = ((1, true), allK cs 1)) := Lib.hid (by simp [combC])
      have HX := HA.out 1 wr HW.out.1
      clear HA HC HHd
      generalize allK cs 1 = ak at *
      generalize anyN cs = nn at *
      go_wp2_with fail
      refine HX.mono ?_
      rintro x w2 ⟨rfl, rfl⟩
      clear HX
      have HZ := Lib.hid (((HW.out.2.2.set_ 0 (.int .i64 1)).set_ 1 (.bool true)))
      have HZb : Hid (Below w.heap.size w ((w2.setCell ⟨w.heap.size + 1, 0, none⟩ (.int .i64 1)).setCell ⟨w.heap.size + 1, 1, none⟩ (.bool true))) := Lib.hid ((HW.out.1.setCell (p := ⟨w.heap.size + 1, 0, none⟩) (by simp <;> omega) _).setCell (p := ⟨w.heap.size + 1, 1, none⟩) (by simp <;> omega) _)
      go_wp2_with fail
      have k0 := HZ.out.cell 0
      have k1 := HZ.out.cell 1
      simp at k0 k1
      exact bodyPost_ret (v := .tuple #[.agg #[.int .i64 1, .bool true], .bool ak]) (by simp [results, Tryz.results53, go_sem, k0, k1]) rfl ⟨by rw [HN.out], HZb.out⟩
    · have HN : Hid (combC 9 kind lk cs = ((1, (anyN cs)), allK cs 1)) := Lib.hid (by simp [combC])
      have HX := HA.out 1 wr HW.out.1
      clear HA HC HHd
      generalize allK cs 1 = ak at *
      generalize anyN cs = nn at *
      go_wp2_with fail
      refine HX.mono ?_
      rintro x w2 ⟨rfl, rfl⟩
      clear HX
      have HZ := Lib.hid (((HW.out.2.2.set_ 0 (.int .i64 1)).set_ 1 (.bool nn)))
      have HZb : Hid (Below w.heap.size w ((w2.setCell ⟨w.heap.size + 1, 0, none⟩ (.int .i64 1)).setCell ⟨w.heap.size + 1, 1, none⟩ (.bool nn))) := Lib.hid ((HW.out.1.setCell (p := ⟨w.heap.size + 1, 0, none⟩) (by simp <;> omega) _).setCell (p := ⟨w.heap.size + 1, 1, none⟩) (by simp <;> omega) _)
      go_wp2_with fail
      have k0 := HZ.out.cell 0
      have k1 := HZ.out.cell 1
      simp at k0 k1
      exact bodyPost_ret (v := .tuple #[.agg #[.int .i64 1, .bool nn], .bool ak]) (by simp [results, Tryz.results53, go_sem, k0, k1]) rfl ⟨by rw [HN.out], HZb.out⟩
    · have HN : Hid (combC 10 kind lk cs = ((3, (anyN cs)), allK cs 3)) := Lib.hid (by simp [combC])
      have HX := HA.out 3 wr HW.out.1
      clear HA HC HHd
      generalize allK cs 3 = ak at *
      generalize anyN cs = nn at *
      go_wp2_with fail
      refine HX.mono ?_
      rintro x w2 ⟨rfl, rfl⟩
      clear HX
      have HZ := Lib.hid (((HW.out.2.2.set_ 0 (.int .i64 3)).set_ 1 (.bool nn)))
      have HZb : Hid (Below w.heap.size w ((w2.setCell ⟨w.heap.size + 1, 0, none⟩ (.int .i64 3)).setCell ⟨w.heap.size + 1, 1, none⟩ (.bool nn))) := Lib.hid ((HW.out.1.setCell (p := ⟨w.heap.size + 1, 0, none⟩) (by simp <;> omega) _).setCell (p := ⟨w.heap.size + 1, 1, none⟩) (by simp <;> omega) _)
      go_wp2_with fail
      have k0 := HZ.out.cell 0
      have k1 := HZ.out.cell 1
      simp at k0 k1
      exact bodyPost_ret (v := .tuple #[.agg #[.int .i64 3, .bool nn], .bool ak]) (by simp [results, Tryz.results53, go_sem, k0, k1]) rfl ⟨by rw [HN.out], HZb.out⟩
    · have HN : Hid (combC 11 kind lk cs = ((1, (anyN cs)), allK cs 3)) := Lib.hid (by simp [combC])
      have HX := HA.out 3 wr HW.out.1
      clear HA HC HHd
      generalize allK cs 3 = ak at *
      generalize anyN cs = nn at *
      go_wp2_with fail
      refine HX.mono ?_
      rintro x w2 ⟨rfl, rfl⟩
      clear HX
      have HZ := Lib.hid (((HW.out.2.2.set_ 0 (.int .i64 1)).set_ 1 (.bool nn)))
      have HZb : Hid (Below w.heap.size w ((w2.setCell ⟨w.heap.size + 1, 0, none⟩ (.int .i64 1)).setCell ⟨w.heap.size + 1, 1, none⟩ (.bool nn))) := Lib.hid ((HW.out.1.setCell (p := ⟨w.heap.size + 1, 0, none⟩) (by simp <;> omega) _).setCell (p := ⟨w.heap.size + 1, 1, none⟩) (by simp <;> omega) _)
      go_wp2_with fail
      have k0 := HZ.out.cell 0
      have k1 := HZ.out.cell 1
      simp at k0 k1
      exact bodyPost_ret (v := .tuple #[.agg #[.int .i64 1, .bool nn], .bool ak]) (by simp [results, Tryz.results53, go_sem, k0, k1]) rfl ⟨by rw [HN.out], HZb.out⟩
    · have HN : Hid (combC 12 kind lk cs = ((2, (anyN cs)), allK cs (fstK cs))) := Lib.hid (by simp [combC])
      have HX := HA.out (fstK cs) wr HW.out.1
      have hf0 := HHd.out (by decide)
      obtain ⟨b, o, rfl, hblk, f0, hfl⟩ := hf0
      replace f0 := (HW.out.1.cell (p := ⟨b, o, none⟩) hblk).trans f0
      clear hblk
      clear HA HC HHd
      generalize allK cs (fstK cs) = ak at *
      generalize anyN cs = nn at *
      generalize fstK cs = fk at *
      go_wp2_with fail
      refine HX.mono ?_
      rintro x w2 ⟨rfl, rfl⟩
      clear HX
      have HZ := Lib.hid (((HW.out.2.2.set_ 0 (.int .i64 2)).set_ 1 (.bool nn)))
      have HZb : Hid (Below w.heap.size w ((w2.setCell ⟨w.heap.size + 1, 0, none⟩ (.int .i64 2)).setCell ⟨w.heap.size + 1, 1, none⟩ (.bool nn))) := Lib.hid ((HW.out.1.setCell (p := ⟨w.heap.size + 1, 0, none⟩) (by simp <;> omega) _).setCell (p := ⟨w.heap.size + 1, 1, none⟩) (by simp <;> omega) _)
      go_wp2_with fail
      have k0 := HZ.out.cell 0
      have k1 := HZ.out.cell 1
      simp at k0 k1
      exact bodyPost_ret (v := .tuple #[.agg #[.int .i64 2, .bool nn], .bool ak]) (by simp [results, Tryz.results53, go_sem, k0, k1]) rfl ⟨by rw [HN.out], HZb.out⟩
    · have HN : Hid (combC 13 kind lk cs = ((2, (anyN cs)), allK cs (fstK cs))) := Lib.hid (by simp [combC])
      have HX := HA.out (fstK cs) wr HW.out.1
      have hf0 := HHd.out (by decide)
      obtain ⟨b, o, rfl, hblk, f0, hfl⟩ := hf0
      replace f0 := (HW.out.1.cell (p := ⟨b, o, none⟩) hblk).trans f0
      clear hblk
      clear HA HC HHd
      generalize allK cs (fstK cs) = ak at *
      generalize anyN cs = nn at *
      generalize fstK cs = fk at *
      go_wp2_with fail
      refine HX.mono ?_
      rintro x w2 ⟨rfl, rfl⟩
      clear HX
      have HZ := Lib.hid (((HW.out.2.2.set_ 0 (.int .i64 2)).set_ 1 (.bool nn)))
      have HZb : Hid (Below w.heap.size w ((w2.setCell ⟨w.heap.size + 1, 0, none⟩ (.int .i64 2)).setCell ⟨w.heap.size + 1, 1, none⟩ (.bool nn))) := Lib.hid ((HW.out.1.setCell (p := ⟨w.heap.size + 1, 0, none⟩) (by simp <;> omega) _).setCell (p := ⟨w.heap.size + 1, 1, none⟩) (by simp <;> omega) _)
      go_wp2_with fail
      have k0 := HZ.out.cell 0
      have k1 := HZ.out.cell 1
      simp at k0 k1
      exact bodyPost_ret (v := .tuple #[.agg #[.int .i64 2, .bool nn], .bool ak]) (by simp [results, Tryz.results53, go_sem, k0, k1]) rfl ⟨by rw [HN.out], HZb.out⟩
    · have HN : Hid (combC 14 kind lk cs = ((2, (anyN cs)), allK cs (fstK cs))) := Lib.hid (by simp [combC])
      have HX := HA.out (fstK cs) wr HW.out.1
      have hf0 := HHd.out (by decide)
      obtain ⟨b, o, rfl, hblk, f0, hfl⟩ := hf0
      replace f0 := (HW.out.1.cell (p := ⟨b, o, none⟩) hblk).trans f0
      clear hblk
      clear HA HC HHd
      generalize allK cs (fstK cs) = ak at *
      generalize anyN cs = nn at *
      generalize fstK cs = fk at *
      go_wp2_with fail
      refine HX.mono ?_
      rintro x w2 ⟨rfl, rfl⟩
      clear HX
      have HZ := Lib.hid (((HW.out.2.2.set_ 0 (.int .i64 2)).set_ 1 (.bool nn)))
      have HZb : Hid (Below w.heap.size w ((w2.setCell ⟨w.heap.size + 1, 0, none⟩ (.int .i64 2)).setCell ⟨w.heap.size + 1, 1, none⟩ (.bool nn))) := Lib.hid ((HW.out.1.setCell (p := ⟨w.heap.size + 1, 0, none⟩) (by simp <;> omega) _).setCell (p := ⟨w.heap.size + 1, 1, none⟩) (by simp <;> omega) _)
      go_wp2_with fail
      have k0 := HZ.out.cell 0
      have k1 := HZ.out.cell 1
      simp at k0 k1
      exact bodyPost_ret (v := .tuple #[.agg #[.int .i64 2, .bool nn], .bool ak]) (by simp [results, Tryz.results53, go_sem, k0, k1]) rfl ⟨by rw [HN.out], HZb.out⟩
    · have HN : Hid (combC 15 kind lk cs = ((2, (anyN cs)), allK cs (fstK cs))) := Lib.hid (by simp [combC])
      have HX := HA.out (fstK cs) wr HW.out.1
      have hf0 := HHd.out (by decide)
      obtain ⟨b, o, rfl, hblk, f0, hfl⟩ := hf0
      replace f0 := (HW.out.1.cell (p := ⟨b, o, none⟩) hblk).trans f0
      clear hblk
      clear HA HC HHd
      generalize allK cs (fstK cs) = ak at *
      generalize anyN cs = nn at *
      generalize fstK cs = fk at *
      go_wp2_with fail
      refine HX.mono ?_
      rintro x w2 ⟨rfl, rfl⟩
      clear HX
      have HZ := Lib.hid (((HW.out.2.2.set_ 0 (.int .i64 2)).set_ 1 (.bool nn)))
      have HZb : Hid (Below w.heap.size w ((w2.setCell ⟨w.heap.size + 1, 0, none⟩ (.int .i64 2)).setCell ⟨w.heap.size + 1, 1, none⟩ (.bool nn))) := Lib.hid ((HW.out.1.setCell (p := ⟨w.heap.size + 1, 0, none⟩) (by simp <;> omega) _).setCell (p := ⟨w.heap.size + 1, 1, none⟩) (by simp <;> omega) _)
      go_wp2_with fail
      have k0 := HZ.out.cell 0
      have k1 := HZ.out.cell 1
      simp at k0 k1
      exact bodyPost_ret (v := .tuple #[.agg #[.int .i64 2, .bool nn], .bool ak]) (by simp [results, Tryz.results53, go_sem, k0, k1]) rfl ⟨by rw [HN.out], HZb.out⟩
    · have HN : Hid (combC 16 kind lk cs = ((2, (anyN cs)), allK cs (fstK cs))) := Lib.hid (by simp [combC])
      have HX := HA.out (fstK cs) wr HW.out.1
      have hf0 := HHd.out (by decide)
      obtain ⟨b, o, rfl, hblk, f0, hfl⟩ := hf0
      replace f0 := (HW.out.1.cell (p := ⟨b, o, none⟩) hblk).trans f0
      clear hblk
      clear HA HC HHd
      generalize allK cs (fstK cs) = ak at *
      generalize anyN cs = nn at *
      generalize fstK cs = fk at *
      go_wp2_with fail
      refine HX.mono ?_
      rintro x w2 ⟨rfl, rfl⟩
      clear HX
      have HZ := Lib.hid (((HW.out.2.2.set_ 0 (.int .i64 2)).set_ 1 (.bool nn)))
      have HZb : Hid (Below w.heap.size w ((w2.setCell ⟨w.heap.size + 1, 0, none⟩ (.int .i64 2)).setCell ⟨w.heap.size + 1, 1, none⟩ (.bool nn))) := Lib.hid ((HW.out.1.setCell (p := ⟨w.heap.size + 1, 0, none⟩) (by simp <;> omega) _).setCell (p := ⟨w.heap.size + 1, 1, none⟩) (by simp <;> omega) _)
      go_wp2_with fail
      have k0 := HZ.out.cell 0
      have k1 := HZ.out.cell 1
      simp at k0 k1
      exact bodyPost_ret (v := .tuple #[.agg #[.int .i64 2, .bool nn], .bool ak]) (by simp [results, Tryz.results53, go_sem, k0, k1]) rfl ⟨by rw [HN.out], HZb.out⟩
    · have HN : Hid (combC 17 kind lk cs = ((2, (anyN cs)), allK cs (fstK cs))) := Lib.hid (by simp [combC])
      have HX := HA.out (fstK cs) wr HW.out.1
      have hf0 := HHd.out (by decide)
      obtain ⟨b, o, rfl, hblk, f0, hfl⟩ := hf0
      replace f0 := (HW.out.1.cell (p := ⟨b, o, none⟩) hblk).trans f0
      clear hblk
      clear HA HC HHd
      generalize allK cs (fstK cs) = ak at *
      generalize anyN cs = nn at *
      generalize fstK cs = fk at *
      go_wp2_with fail
      refine HX.mono ?_
      rintro x w2 ⟨rfl, rfl⟩
      clear HX
      have HZ := Lib.hid (((HW.out.2.2.set_ 0 (.int .i64 2)).set_ 1 (.bool nn)))
      have HZb : Hid (Below w.heap.size w ((w2.setCell ⟨w.heap.size + 1, 0, none⟩ (.int .i64 2)).setCell ⟨w.heap.size + 1, 1, none⟩ (.bool nn))) := Lib.hid ((HW.out.1.setCell (p := ⟨w.heap.size + 1, 0, none⟩) (by simp <;> omega) _).setCell (p := ⟨w.heap.size + 1, 1, none⟩) (by simp <;> omega) _)
      go_wp2_with fail
      have k0 := HZ.out.cell 0
      have k1 := HZ.out.cell 1
      simp at k0 k1
      exact bodyPost_ret (v := .tuple #[.agg #[.int .i64 2, .bool nn], .bool ak]) (by simp [results, Tryz.results53, go_sem, k0, k1]) rfl ⟨by rw [HN.out], HZb.out⟩
    · have HN : Hid (combC 18 kind lk cs = ((2, false), allK cs (fstK cs))) := Lib.hid (by simp [combC])
      have HX := HA.out (fstK cs) wr HW.out.1
      have hf0 := HHd.out (by decide)
      obtain ⟨b, o, rfl, hblk, f0, hfl⟩ := hf0
      replace f0 := (HW.out.1.cell (p := ⟨b, o, none⟩) hblk).trans f0
      clear hblk
      clear HA HC HHd
      generalize allK cs (fstK cs) = ak at *
      generalize anyN cs = nn at *
      generalize fstK cs = fk at *
      go_wp2_with fail
      refine HX.mono ?_
      rintro x w2 ⟨rfl, rfl⟩
      clear HX
      have HZ := Lib.hid (((HW.out.2.2.set_ 0 (.int .i64 2)).set_ 1 (.bool false)))
      have HZb : Hid (Below w.heap.size w ((w2.setCell ⟨w.heap.size + 1, 0, none⟩ (.int .i64 2)).setCell ⟨w.heap.size + 1, 1, none⟩ (.bool false))) := Lib.hid ((HW.out.1.setCell (p := ⟨w.heap.size + 1, 0, none⟩) (by simp <;> omega) _).setCell (p := ⟨w.heap.size + 1, 1, none⟩) (by simp <;> omega) _)
      go_wp2_with fail
      have k0 := HZ.out.cell 0
      have k1 := HZ.out.cell 1
      simp at k0 k1
      exact bodyPost_ret (v := .tuple #[.agg #[.int .i64 2, .bool false], .bool ak]) (by simp [results, Tryz.results53, go_sem, k0, k1]) rfl ⟨by rw [HN.out], HZb.out⟩
    · have HN : Hid (combC 19 kind lk cs = ((2, (anyN cs)), allK cs 2)) := Lib.hid (by simp [combC])
      have HX := HA.out 2 wr HW.out.1
      clear HA HC HHd
      generalize allK cs 2 = ak at *
      generalize anyN cs = nn at *
      go_wp2_with fail
      refine HX.mono ?_
      rintro x w2 ⟨rfl, rfl⟩
      clear HX
      have HZ := Lib.hid (((HW.out.2.2.set_ 0 (.int .i64 2)).set_ 1 (.bool nn)))
      have HZb : Hid (Below w.heap.size w ((w2.setCell ⟨w.heap.size + 1, 0, none⟩ (.int .i64 2)).setCell ⟨w.heap.size + 1, 1, none⟩ (.bool nn))) := Lib.hid ((HW.out.1.setCell (p := ⟨w.heap.size + 1, 0, none⟩) (by simp <;> omega) _).setCell (p := ⟨w.heap.size + 1, 1, none⟩) (by simp <;> omega) _)
      go_wp2_with fail
      have k0 := HZ.out.cell 0
      have k1 := HZ.out.cell 1
      simp at k0 k1
      exact bodyPost_ret (v := .tuple #[.agg #[.int .i64 2, .bool nn], .bool ak]) (by simp [results, Tryz.results53, go_sem, k0, k1]) rfl ⟨by rw [HN.out], HZb.out⟩
    · have HN : Hid (combC 20 kind lk cs = ((2, (anyN cs)), allK cs 2)) := Lib.hid (by simp [combC])
      have HX := HA.out 2 wr HW.out.1
      clear HA HC HHd
      generalize allK cs 2 = ak at *
      generalize anyN cs = nn at *
      go_wp2_with fail
      refine HX.mono ?_
      rintro x w2 ⟨rfl, rfl⟩
      clear HX
      have HZ := Lib.hid (((HW.out.2.2.set_ 0 (.int .i64 2)).set_ 1 (.bool nn)))
      have HZb : Hid (Below w.heap.size w ((w2.setCell ⟨w.heap.size + 1, 0, none⟩ (.int .i64 2)).setCell ⟨w.heap.size + 1, 1, none⟩ (.bool nn))) := Lib.hid ((HW.out.1.setCell (p := ⟨w.heap.size + 1, 0, none⟩) (by simp <;> omega) _).setCell (p := ⟨w.heap.size + 1, 1, none⟩) (by simp <;> omega) _)
      go_wp2_with fail
      have k0 := HZ.out.cell 0
      have k1 := HZ.out.cell 1
      simp at k0 k1
      exact bodyPost_ret (v := .tuple #[.agg #[.int .i64 2, .bool nn], .bool ak]) (by simp [results, Tryz.results53, go_sem, k0, k1]) rfl ⟨by rw [HN.out], HZb.out⟩
    · have HN : Hid (combC 21 kind lk cs = ((2, (anyN cs)), allK cs 2)) := Lib.hid (by simp [combC])
      have HX := HA.out 2 wr HW.out.1
      clear HA HC HHd
      generalize allK cs 2 = ak at *
      generalize anyN cs = nn at *
      go_wp2_with fail
      refine HX.mono ?_
      rintro x w2 ⟨rfl, rfl⟩
      clear HX
      have HZ := Lib.hid (((HW.out.2.2.set_ 0 (.int .i64 2)).set_ 1 (.bool nn)))
      have HZb : Hid (Below w.heap.size w ((w2.setCell ⟨w.heap.size + 1, 0, none⟩ (.int .i64 2)).setCell ⟨w.heap.size + 1, 1, none⟩ (.bool nn))) := Lib.hid ((HW.out.1.setCell (p := ⟨w.heap.size + 1, 0, none⟩) (by simp <;> omega) _).setCell (p := ⟨w.heap.size + 1, 1, none⟩) (by simp <;> omega) _)
      go_wp2_with fail
      have k0 := HZ.out.cell 0
      have k1 := HZ.out.cell 1
      simp at k0 k1
      exact bodyPost_ret (v := .tuple #[.agg #[.int .i64 2, .bool nn], .bool ak]) (by simp [results, Tryz.results53, go_sem, k0, k1]) rfl ⟨by rw [HN.out], HZb.out⟩
    · have HN : Hid (combC 22 kind lk cs = ((2, false), true)) := Lib.hid (by simp [combC])
      clear HA HC HHd
      have HZ := Lib.hid (((HW.out.2.2.set_ 0 (.int .i64 2)).set_ 1 (.bool false)))
      have HZb : Hid (Below w.heap.size w ((wr.setCell ⟨w.heap.size + 1, 0, none⟩ (.int .i64 2)).setCell ⟨w.heap.size + 1, 1, none⟩ (.bool false))) := Lib.hid ((HW.out.1.setCell (p := ⟨w.heap.size + 1, 0, none⟩) (by simp <;> omega) _).setCell (p := ⟨w.heap.size + 1, 1, none⟩) (by simp <;> omega) _)
      go_wp2_with fail
      have k0 := HZ.out.cell 0
      have k1 := HZ.out.cell 1
      simp at k0 k1
      exact bodyPost_ret (v := .tuple #[.agg #[.int .i64 2, .bool false], .bool true]) (by simp [results, Tryz.results53, go_sem, k0, k1]) rfl ⟨by rw [HN.out], HZb.out⟩
    · have HN : Hid (combC 23 kind lk cs = ((2, false), allK cs 2)) := Lib.hid (by simp [combC])
      have HX := HA.out 2 wr HW.out.1
      clear HA HC HHd
      generalize allK cs 2 = ak at *
      generalize anyN cs = nn at *
      go_wp2_with fail
      refine HX.mono ?_
      rintro x w2 ⟨rfl, rfl⟩
      clear HX
      have HZ := Lib.hid (((HW.out.2.2.set_ 0 (.int .i64 2)).set_ 1 (.bool false)))
      have HZb : Hid (Below w.heap.size w ((w2.setCell ⟨w.heap.size + 1, 0, none⟩ (.int .i64 2)).setCell ⟨w.heap.size + 1, 1, none⟩ (.bool false))) := Lib.hid ((HW.out.1.setCell (p := ⟨w.heap.size + 1, 0, none⟩) (by simp <;> omega) _).setCell (p := ⟨w.heap.size + 1, 1, none⟩) (by simp <;> omega) _)
      go_wp2_with fail
      have k0 := HZ.out.cell 0
      have k1 := HZ.out.cell 1
      simp at k0 k1
      exact bodyPost_ret (v := .tuple #[.agg #[.int .i64 2, .bool false], .bool ak]) (by simp [results, Tryz.results53, go_sem, k0, k1]) rfl ⟨by rw [HN.out], HZb.out⟩
    · have HQ := HC.out (HOdd.out rfl) wr HW.out.1
      have HN : Hid (combC 24 kind lk cs = ((((combC 24 kind lk cs).1.1), ((combC 24 kind lk cs).1.2)), (combC 24 kind lk cs).2)) := Lib.hid rfl
      clear HA HC HHd
      go_wp2_with fail
      refine HQ.mono ?_
      rintro x w2 ⟨rfl, hb2⟩
      replace HW : Hid (Below w.heap.size w w2 ∧ Blk w2 w.heap.size 29 #[.int .i64 24, .int .i64 n, .int .i64 m, .int .i64 kind, .int .i64 lk, .int .i64 ln, .string ls, .slice A an c, .slice R rn d] ∧ Blk w2 (w.heap.size + 1) 50 #[.int .i64 0, .bool false]) := Lib.hid ⟨thn HW.out.1 hb2, HW.out.2.1.below hb2 HW.out.2.1.lt, HW.out.2.2.below hb2 HW.out.2.2.lt⟩
      clear hb2 x0 x3 x4 z0 z1 fz0 fz1 hzl hal
      generalize hck : (combC 24 kind lk cs).1.1 = ck at *
      generalize hcn : (combC 24 kind lk cs).1.2 = cn at *
      generalize hcb : (combC 24 kind lk cs).2 = cb at *
      have hz := HW.out.2.2
      have z0 := hz.cell 0
      have z1 := hz.cell 1
      simp only [List.getElem?_toArray, List.getElem?_cons_succ, List.getElem?_cons_zero] at z0 z1
      have fz0 := hz.frozen 0
      have fz1 := hz.frozen 1
      have hzl := hz.lt
      clear hz HQ
      have HZ := Lib.hid (((HW.out.2.2.set_ 0 (.int .i64 ck)).set_ 1 (.bool cn)))
      have HZb : Hid (Below w.heap.size w ((w2.setCell ⟨w.heap.size + 1, 0, none⟩ (.int .i64 ck)).setCell ⟨w.heap.size + 1, 1, none⟩ (.bool cn))) := Lib.hid ((HW.out.1.setCell (p := ⟨w.heap.size + 1, 0, none⟩) (by simp <;> omega) _).setCell (p := ⟨w.heap.size + 1, 1, none⟩) (by simp <;> omega) _)
      go_wp2_with fail
      have k0 := HZ.out.cell 0
      have k1 := HZ.out.cell 1
      simp at k0 k1
      exact bodyPost_ret (v := .tuple #[.agg #[.int .i64 ck, .bool cn], .bool cb]) (by simp [results, Tryz.results53, go_sem, k0, k1]) rfl ⟨by rw [hck, hcn, hcb], HZb.out⟩
    · have hf0 := HHd.out (by decide)
      obtain ⟨b, o, rfl, hblk, f0, hfl⟩ := hf0
      have HF := Lib.hid (And.intro hblk f0)
      replace f0 := (HW.out.1.cell (p := ⟨b, o, none⟩) hblk).trans f0
      clear hblk
      have HN : Hid (combC 25 kind lk cs = ((fstK cs, cs.all Prod.snd), allK cs (fstK cs))) := Lib.hid (by simp [combC])
      replace HA := Lib.hid fun w1 hb => HA.out (fstK cs) w1 hb
      clear HC HHd
      generalize allK cs (fstK cs) = ak at *
      generalize fstK cs = fk at *
      go_wp2_with fail
      go_loopw [8, 9] (fun nv iv ws => ∃ i : Nat, i ≤ cs.length ∧ iv = .int .i64 i ∧ nv = .bool ((cs.take i).all Prod.snd) ∧ ws = wr) (fun _ iv _ => cs.length - (intOf iv).toNat)
      case atStart => exact ⟨0, Nat.zero_le _, rfl, by rw [List.take_zero]; rfl, rfl⟩
      case round =>
        obtain ⟨i, hi, rfl, rfl, rfl⟩ := hrel
        by_cases hlt : i < cs.length
        · have hlti : (i : Int) < (cs.length : Int) := by omega
          have hi0 : (0 : Int) ≤ (i : Int) := by omega
          obtain ⟨b', o', he, hb', c0, c1⟩ := (HH.out.1.below HW.out.1 HW.out.1.size).at_ hlt
          injection he with he
          injection he with he1 he2 _
          subst he1 he2
          have HT := Lib.hid (allN_take hlt)
          clear f0 c0
          generalize cs[i] = ci at *
          generalize hq : (cs.take i).all Prod.snd = q at *
          cases q
          · have HN : Hid ((cs.take (i + 1)).all Prod.snd = false) := Lib.hid (by rw [HT.out, Bool.false_and])
            clear HT hq
            go_wp2_with fail
            go_roundw
            case rel => exact ⟨i + 1, by omega, by go_num, by rw [HN.out], by first | rfl | trivial⟩
            case measure => simp [intOf]; omega
          · have HN : Hid ((cs.take (i + 1)).all Prod.snd = ci.2) := Lib.hid (by rw [HT.out, Bool.true_and])
            clear HT hq
            go_wp2_with fail
            go_roundw
            case rel => exact ⟨i + 1, by omega, by go_num, by rw [HN.out], by first | rfl | trivial⟩
            case measure => simp [intOf]; omega
        have hlf : decide ((i : Int) < (cs.length : Int)) = false := decide_eq_false (by omega)
        rw [List.take_of_length_le (by omega)]
        generalize cs.all Prod.snd = nn at *
        have HBd : Hid (Below w.heap.size w wr.drew) := Lib.hid ⟨HW.out.1.os, HW.out.1.tape, HW.out.1.output, HW.out.1.size, HW.out.1.block⟩
        have HXd := HA.out wr.drew HBd.out
        have HBs : Hid (Below w.heap.size w ((wr.drew.setCell ⟨w.heap.size + 1, 0, none⟩ (.int .i64 fk)).setCell ⟨w.heap.size + 1, 1, none⟩ (.bool nn))) := Lib.hid ((HBd.out.setCell (p := ⟨w.heap.size + 1, 0, none⟩) (by simp <;> omega) _).setCell (p := ⟨w.heap.size + 1, 1, none⟩) (by simp <;> omega) _)
        have HXs := HA.out _ HBs.out
        have HBw : Hid (Below w.heap.size w ((wr.setCell ⟨w.heap.size + 1, 0, none⟩ (.int .i64 fk)).setCell ⟨w.heap.size + 1, 1, none⟩ (.bool nn))) := Lib.hid ((HW.out.1.setCell (p := ⟨w.heap.size + 1, 0, none⟩) (by simp <;> omega) _).setCell (p := ⟨w.heap.size + 1, 1, none⟩) (by simp <;> omega) _)
        have HZ := Lib.hid (((HW.out.2.2.set_ 0 (.int .i64 fk)).set_ 1 (.bool nn)))
        clear HA
        go_upto_region 45 with fail
        have HK1 := Lib.hid ((HBs.out.cell (p := ⟨b, o, none⟩) HF.out.1).trans HF.out.2)
        have f0' : wr.drew.cell? ⟨b, o, none⟩ = some (.int .i64 fk) := f0
        have z0' : wr.drew.cell? ⟨w.heap.size + 1, 0, none⟩ = some (.int .i64 0) := z0
        have z1' : wr.drew.cell? ⟨w.heap.size + 1, 1, none⟩ = some (.bool false) := z1
        have fz0' : wr.drew.frozen? ⟨w.heap.size + 1, 0, none⟩ = false := fz0
        have fz1' : wr.drew.frozen? ⟨w.heap.size + 1, 1, none⟩ = false := fz1
        have hzl' : w.heap.size + 1 < wr.drew.heap.size := hzl
        clear x0 x3 x4 HBd
        have hfl2 : 0 < cs.length := by omega
        have hfl3 : cs ≠ [] := by rintro rfl; exact absurd hfl2 (by simp)
        have hfl4 : cs.length ≠ 0 := by omega
        have hfl5 : (0 : Int) ≤ 0 := by omega
        go_region_held3 (fun w' => w'.cell? ⟨b, o, none⟩ = some (.int .i64 fk)) (first | exact f0' | exact HK1.out) (first | (go_at_call 80; (first | refine HXd.mono ?_ | refine HXs.mono ?_); rintro x w2 ⟨rfl, hw2⟩; subst hw2))
        all_goals go_wp2_with fail
        all_goals
          have k0 := HZ.out.cell 0
          have k1 := HZ.out.cell 1
          simp at k0 k1
          exact bodyPost_ret (v := .tuple #[.agg #[.int .i64 fk, .bool nn], .bool ak]) (by simp [results, Tryz.results53, go_sem, k0, k1]) rfl ⟨by rw [HN.out], ⟨HBw.out.os, HBw.out.tape, HBw.out.output, HBw.out.size, HBw.out.block⟩⟩
end Go.Proofs.YtcbcncaoabablaaGreatDoor
