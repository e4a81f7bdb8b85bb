/-
  Rvb: CONTRACT of the reference's Value: literals, cases, coalesce, operations that are null if an argument is.
  Rev: CONTRACT of the reference's Eval.
-/
import Derived.Test.YtcbcncaoabablaaGreatDoorRva
import Derived.Test.YtcbcncaoabablaaGreatDoorGA24
namespace Go.Proofs.YtcbcncaoabablaaGreatDoor
open Go.RowKit Go.Deep

theorem caseV_step {l : List V} {i : Nat} (h : i + 1 < l.length) : caseV (l.drop i) = if (l[i]).isE true then l[i + 1] else caseV (l.drop (i + 2)) := by
  rw [List.drop_eq_getElem_cons (by omega), List.drop_eq_getElem_cons (i := i + 1) h]
  rfl
theorem caseV_end {l : List V} {i : Nat} (h : i < l.length) (h2 : i + 1 = l.length) : caseV (l.drop i) = l[i] := by
  rw [List.drop_eq_getElem_cons h, List.drop_eq_nil_of_le (by omega)]
  rfl
theorem coalV_step {l : List V} {i : Nat} (h : i < l.length) : coalV (l.drop i) = if (l[i]).k = 0 then coalV (l.drop (i + 1)) else l[i] := by
  rw [List.drop_eq_getElem_cons h]
  rfl
theorem opS_null {op : Int} {l : List V} (h4 : 4 ≤ op) (h17 : op ≤ 17) (h : l.any (fun v => v.k == 0) = true) : opV op l = zV := by
  unfold opV
  rw [if_neg (by omega), if_neg (by omega), if_neg (by omega), if_neg (by omega), if_neg (by omega), if_neg (by omega), if_neg (by omega), if_neg (by omega), h]
  rfl
theorem opS_none {op : Int} {l : List V} (h4 : 4 ≤ op) (h17 : op ≤ 17) (h : l.any (fun v => v.k == 0) = false) : opV op l = strictV op (l.headD zV) (l.getLast?.getD zV) := by
  unfold opV
  rw [if_neg (by omega), if_neg (by omega), if_neg (by omega), if_neg (by omega), if_neg (by omega), if_neg (by omega), if_neg (by omega), if_neg (by omega), h]
  rfl
theorem anyZ_take {l : List V} {i : Nat} (h : i < l.length) (ht : (l.take i).any (fun v => v.k == 0) = false) : (l.take (i + 1)).any (fun v => v.k == 0) = (l[i].k == 0) := by
  rw [List.take_succ_eq_append_getElem h, List.any_append, ht]
  simp
theorem anyZ_stop {l : List V} {i : Nat} (h : i < l.length) (hk : (l[i].k == 0) = true) : l.any (fun v => v.k == 0) = true := List.any_eq_true.2 ⟨l[i], List.getElem_mem h, hk⟩
set_option maxHeartbeats 4000000 in
theorem val3 (n m kind : Int) (lit : V) (A' R : Option Addr) (an rn c' d : Nat) (v : Value) (w : World) :
    Calls Tryz.prog 58 #[.agg #[.int .i64 3, .int .i64 n, .int .i64 m, .int .i64 kind, .int .i64 lit.k, .int .i64 lit.n, .string lit.s, .slice A' an c', .slice R rn d], v] w fun e w' => e = .returned (.agg #[.int .i64 lit.k, .int .i64 lit.n, .string lit.s]) ∧ Below w.heap.size w w' := by
  go_enter Tryz.func58, Tryz.ntmps58
  go_wp2_with fail
  exact bodyPost_ret (v := .agg #[.int .i64 lit.k, .int .i64 lit.n, .string lit.s]) (by simp [results, Tryz.results58, go_sem]) rfl ⟨rfl, al (al (Below.refl _ _) _) _⟩
set_option maxHeartbeats 8000000 in
set_option maxRecDepth 100000 in
theorem val24 (n m kind : Int) (lit : V) (A' R : Option Addr) (an rn c' d : Nat) (A : Option Addr) (c : Nat) (l : List V) (w : World) (hr : VReads w w.heap.size A l) (hm : manyB 24 l.length = true) (hok : ∀ v ∈ l, v.ok = true) (hn : l.length ≤ 1000000) :
    Calls Tryz.prog 58 #[.agg #[.int .i64 24, .int .i64 n, .int .i64 m, .int .i64 kind, .int .i64 lit.k, .int .i64 lit.n, .string lit.s, .slice A' an c', .slice R rn d], .slice A l.length c] w fun e w' => e = .returned (.agg #[.int .i64 (opV 24 l).k, .int .i64 (opV 24 l).n, .string (opV 24 l).s]) ∧ Below w.heap.size w w' := by
  have H0 : Hid (Below w.heap.size w ((w.alloc (.cells #[.int .i64 24, .int .i64 n, .int .i64 m, .int .i64 kind, .int .i64 lit.k, .int .i64 lit.n, .string lit.s, .slice A' an c', .slice R rn d] 29)).alloc (.cells #[.int .i64 0, .int .i64 0, .string ⟨#[]⟩] 25)) ∧ Blk ((w.alloc (.cells #[.int .i64 24, .int .i64 n, .int .i64 m, .int .i64 kind, .int .i64 lit.k, .int .i64 lit.n, .string lit.s, .slice A' an c', .slice R rn d] 29)).alloc (.cells #[.int .i64 0, .int .i64 0, .string ⟨#[]⟩] 25)) w.heap.size 29 #[.int .i64 24, .int .i64 n, .int .i64 m, .int .i64 kind, .int .i64 lit.k, .int .i64 lit.n, .string lit.s, .slice A' an c', .slice R rn d] ∧ Blk ((w.alloc (.cells #[.int .i64 24, .int .i64 n, .int .i64 m, .int .i64 kind, .int .i64 lit.k, .int .i64 lit.n, .string lit.s, .slice A' an c', .slice R rn d] 29)).alloc (.cells #[.int .i64 0, .int .i64 0, .string ⟨#[]⟩] 25)) (w.heap.size + 1) 25 #[.int .i64 0, .int .i64 0, .string ⟨#[]⟩]) := Lib.hid ⟨al (al (Below.refl _ _) _) _, (Blk.new w _ _).alloc _, Blk.new' (by simp)⟩
  have hodd := many_odd hm
  have HR := Lib.hid hr
  have HO := Lib.hid hok
  have HP : Hid (l.length % 2 = 1) := Lib.hid hodd
  clear hr hok hm hodd
  go_enter Tryz.func58, Tryz.ntmps58
  go_wp2_with fail
  go_loopw [5] (fun iv wr => ∃ i : Nat, i < l.length ∧ iv = .int .i64 i ∧ Hid (i % 2 = 0 ∧ opV 24 l = caseV (l.drop i)) ∧ Hid (Below w.heap.size w wr ∧ Blk wr w.heap.size 29 #[.int .i64 24, .int .i64 n, .int .i64 m, .int .i64 kind, .int .i64 lit.k, .int .i64 lit.n, .string lit.s, .slice A' an c', .slice R rn d] ∧ Blk wr (w.heap.size + 1) 25 #[.int .i64 0, .int .i64 0, .string ⟨#[]⟩])) (fun iv _ => l.length - (intOf iv).toNat)
  case atStart => exact ⟨0, by have := HP.out; omega, rfl, Lib.hid ⟨rfl, rfl⟩, H0⟩
  case round =>
    obtain ⟨i, hi, rfl, HI, HW⟩ := hrel
    have hzb := HW.out.2.2
    have q0 := hzb.cell 0
    have q1 := hzb.cell 1
    have q2 := hzb.cell 2
    simp only [List.getElem?_toArray, List.getElem?_cons_succ, List.getElem?_cons_zero] at q0 q1 q2
    have f0 := hzb.frozen 0
    have f1 := hzb.frozen 1
    have f2 := hzb.frozen 2
    have hzl := hzb.lt
    clear hzb
    by_cases hlt : i + 1 < l.length
    · have hlti : (i : Int) + 1 < (l.length : Int) := by omega
      have hil : (i : Int) < (l.length : Int) := by omega
      have hi0 : (0 : Int) ≤ (i : Int) := by omega
      have hi1 : (0 : Int) ≤ (i : Int) + 1 := by omega
      obtain ⟨b, o, rfl, hblk, x0, x1, x2⟩ := (HR.out.below HW.out.1 HW.out.1.size).at_ hi
      obtain ⟨b', o', he, _, y0, y1, y2⟩ := (HR.out.below HW.out.1 HW.out.1.size).at_ hlt
      injection he with he
      injection he with he1 he2 _
      subst he1 he2
      have hxok := HO.out _ (List.getElem_mem hi)
      have HS := Lib.hid (caseV_step hlt)
      rw [isE_ok hxok] at HS
      clear hxok
      generalize l[i] = x at *
      generalize l[i + 1] = y at *
      have HX := Lib.hid (rTrue_any x.k x.n x.s wr)
      generalize (x.k == 2 && x.n == 1) = t at *
      cases t
      · have HN : Hid ((i + 2) % 2 = 0 ∧ opV 24 l = caseV (l.drop (i + 2))) := Lib.hid ⟨by have := HI.out.1; omega, by rw [HI.out.2, HS.out]; rfl⟩
        have hi2 : i + 2 < l.length := by have := HP.out; have := HI.out.1; omega
        clear HS
        go_wp2_with fail
        refine HX.out.mono ?_
        rintro u w3 ⟨rfl, hb3⟩
        have H1 : Hid (Below w.heap.size w w3 ∧ Blk w3 w.heap.size 29 #[.int .i64 24, .int .i64 n, .int .i64 m, .int .i64 kind, .int .i64 lit.k, .int .i64 lit.n, .string lit.s, .slice A' an c', .slice R rn d] ∧ Blk w3 (w.heap.size + 1) 25 #[.int .i64 0, .int .i64 0, .string ⟨#[]⟩]) := Lib.hid ⟨thn HW.out.1 hb3, HW.out.2.1.below hb3 HW.out.2.1.lt, HW.out.2.2.below hb3 HW.out.2.2.lt⟩
        clear hb3
        go_wp2_with fail
        first | exact ⟨⟨i + 2, hi2, by go_num, HN, H1⟩, by simp [intOf]; omega⟩ | (go_roundw; case rel => exact ⟨i + 2, hi2, by go_num, HN, H1⟩; case measure => simp [intOf]; omega)
      · have HV : Hid (opV 24 l = y) := Lib.hid (by rw [HI.out.2, HS.out]; rfl)
        clear HS
        go_wp2_with fail
        refine HX.out.mono ?_
        rintro u w3 ⟨rfl, hb3⟩
        have H1 : Hid (Below w.heap.size w w3 ∧ Blk w3 w.heap.size 29 #[.int .i64 24, .int .i64 n, .int .i64 m, .int .i64 kind, .int .i64 lit.k, .int .i64 lit.n, .string lit.s, .slice A' an c', .slice R rn d] ∧ Blk w3 (w.heap.size + 1) 25 #[.int .i64 0, .int .i64 0, .string ⟨#[]⟩]) := Lib.hid ⟨thn HW.out.1 hb3, HW.out.2.1.below hb3 HW.out.2.1.lt, HW.out.2.2.below hb3 HW.out.2.2.lt⟩
        have Y0 := (hb3.cell (p := ⟨b, _, none⟩) (by have := HW.out.1.size; omega)).trans y0
        have Y1 := (hb3.cell (p := ⟨b, _, none⟩) (by have := HW.out.1.size; omega)).trans y1
        have Y2 := (hb3.cell (p := ⟨b, _, none⟩) (by have := HW.out.1.size; omega)).trans y2
        clear hb3 q0 q1 q2 f0 f1 f2 x0 x1 x2 y0 y1 y2
        have hzb := H1.out.2.2
        have q0 := hzb.cell 0
        have q1 := hzb.cell 1
        have q2 := hzb.cell 2
        simp only [List.getElem?_toArray, List.getElem?_cons_succ, List.getElem?_cons_zero] at q0 q1 q2
        have f0 := hzb.frozen 0
        have f1 := hzb.frozen 1
        have f2 := hzb.frozen 2
        have hzl := hzb.lt
        clear hzb
        go_wp2_with fail
        have HB := ((H1.out.2.2.set_ 0 (.int .i64 (y).k)).set_ 1 (.int .i64 (y).n)).set_ 2 (.string (y).s)
        have k0 := HB.cell 0
        have k1 := HB.cell 1
        have k2 := HB.cell 2
        simp at k0 k1 k2
        exact bodyPost_ret (v := .agg #[.int .i64 (y).k, .int .i64 (y).n, .string (y).s]) (by simp [results, Tryz.results58, go_sem, k0, k1, k2]) rfl ⟨by first | (rw [HV.out]; done) | (rw [HV.out]; rfl), ((H1.out.1.setCell (p := ⟨w.heap.size + 1, 0, none⟩) (by simp <;> omega) _).setCell (p := ⟨w.heap.size + 1, 1, none⟩) (by simp <;> omega) _).setCell (p := ⟨w.heap.size + 1, 2, none⟩) (by simp <;> omega) _⟩
    · obtain ⟨q, hq⟩ : ∃ q : Nat, q = l.length - 1 := ⟨_, rfl⟩
      have hqe : i = q := by omega
      have hqi : (l.length : Int) - 1 = (i : Int) := by omega
      have hqw : IntKind.i64.wrap ((l.length : Int) - 1) = (i : Int) := by rw [hqi]; exact IntWalk.i64_in _ (by omega)
      have hil : (i : Int) < (l.length : Int) := by omega
      have hi0 : (0 : Int) ≤ (i : Int) := by omega
      have hlf : decide ((i : Int) + 1 < (l.length : Int)) = false := decide_eq_false (by omega)
      obtain ⟨b, o, rfl, hblk, x0, x1, x2⟩ := (HR.out.below HW.out.1 HW.out.1.size).at_ hi
      have HV : Hid (opV 24 l = l[i]) := Lib.hid (by rw [HI.out.2, caseV_end hi (by omega)])
      clear hq hqe
      generalize l[i] = x at *
      go_wp2_with fail
      have HB := ((HW.out.2.2.set_ 0 (.int .i64 (x).k)).set_ 1 (.int .i64 (x).n)).set_ 2 (.string (x).s)
      have k0 := HB.cell 0
      have k1 := HB.cell 1
      have k2 := HB.cell 2
      simp at k0 k1 k2
      exact bodyPost_ret (v := .agg #[.int .i64 (x).k, .int .i64 (x).n, .string (x).s]) (by simp [results, Tryz.results58, go_sem, k0, k1, k2]) rfl ⟨by first | (rw [HV.out]; done) | (rw [HV.out]; rfl), ((HW.out.1.setCell (p := ⟨w.heap.size + 1, 0, none⟩) (by simp <;> omega) _).setCell (p := ⟨w.heap.size + 1, 1, none⟩) (by simp <;> omega) _).setCell (p := ⟨w.heap.size + 1, 2, none⟩) (by simp <;> omega) _⟩
set_option maxHeartbeats 8000000 in
set_option maxRecDepth 100000 in
theorem val25 (n m kind : Int) (lit : V) (A' R : Option Addr) (an rn c' d : Nat) (A : Option Addr) (c : Nat) (l : List V) (w : World) (hr : VReads w w.heap.size A l) (_hm : manyB 25 l.length = true) (_hok : ∀ v ∈ l, v.ok = true) (hn : l.length ≤ 1000000) :
    Calls Tryz.prog 58 #[.agg #[.int .i64 25, .int .i64 n, .int .i64 m, .int .i64 kind, .int .i64 lit.k, .int .i64 lit.n, .string lit.s, .slice A' an c', .slice R rn d], .slice A l.length c] w fun e w' => e = .returned (.agg #[.int .i64 (opV 25 l).k, .int .i64 (opV 25 l).n, .string (opV 25 l).s]) ∧ Below w.heap.size w w' := by
  have H0 : Hid (Below w.heap.size w ((w.alloc (.cells #[.int .i64 25, .int .i64 n, .int .i64 m, .int .i64 kind, .int .i64 lit.k, .int .i64 lit.n, .string lit.s, .slice A' an c', .slice R rn d] 29)).alloc (.cells #[.int .i64 0, .int .i64 0, .string ⟨#[]⟩] 25)) ∧ Blk ((w.alloc (.cells #[.int .i64 25, .int .i64 n, .int .i64 m, .int .i64 kind, .int .i64 lit.k, .int .i64 lit.n, .string lit.s, .slice A' an c', .slice R rn d] 29)).alloc (.cells #[.int .i64 0, .int .i64 0, .string ⟨#[]⟩] 25)) w.heap.size 29 #[.int .i64 25, .int .i64 n, .int .i64 m, .int .i64 kind, .int .i64 lit.k, .int .i64 lit.n, .string lit.s, .slice A' an c', .slice R rn d] ∧ Blk ((w.alloc (.cells #[.int .i64 25, .int .i64 n, .int .i64 m, .int .i64 kind, .int .i64 lit.k, .int .i64 lit.n, .string lit.s, .slice A' an c', .slice R rn d] 29)).alloc (.cells #[.int .i64 0, .int .i64 0, .string ⟨#[]⟩] 25)) (w.heap.size + 1) 25 #[.int .i64 0, .int .i64 0, .string ⟨#[]⟩]) := Lib.hid ⟨al (al (Below.refl _ _) _) _, (Blk.new w _ _).alloc _, Blk.new' (by simp)⟩
  have HR := Lib.hid hr
  clear hr _hok _hm
  go_enter Tryz.func58, Tryz.ntmps58
  go_wp2_with fail
  go_loopw [6] (fun iv wr => ∃ i : Nat, i ≤ l.length ∧ iv = .int .i64 i ∧ Hid (opV 25 l = coalV (l.drop i)) ∧ Hid (Below w.heap.size w wr ∧ Blk wr w.heap.size 29 #[.int .i64 25, .int .i64 n, .int .i64 m, .int .i64 kind, .int .i64 lit.k, .int .i64 lit.n, .string lit.s, .slice A' an c', .slice R rn d] ∧ Blk wr (w.heap.size + 1) 25 #[.int .i64 0, .int .i64 0, .string ⟨#[]⟩])) (fun iv _ => l.length - (intOf iv).toNat)
  case atStart => exact ⟨0, Nat.zero_le _, rfl, Lib.hid rfl, H0⟩
  case round =>
    obtain ⟨i, hi, rfl, HI, HW⟩ := hrel
    have hzb := HW.out.2.2
    have q0 := hzb.cell 0
    have q1 := hzb.cell 1
    have q2 := hzb.cell 2
    simp only [List.getElem?_toArray, List.getElem?_cons_succ, List.getElem?_cons_zero] at q0 q1 q2
    have f0 := hzb.frozen 0
    have f1 := hzb.frozen 1
    have f2 := hzb.frozen 2
    have hzl := hzb.lt
    clear hzb
    by_cases hlt : i < l.length
    · have hlti : (i : Int) < (l.length : Int) := by omega
      have hi0 : (0 : Int) ≤ (i : Int) := by omega
      obtain ⟨b, o, rfl, hblk, x0, x1, x2⟩ := (HR.out.below HW.out.1 HW.out.1.size).at_ hlt
      have HS := Lib.hid (coalV_step hlt)
      generalize l[i] = x at *
      by_cases hk : x.k = 0
      · have e1 : (x.k != 0) = false := by rw [bne_eq_false_iff_eq]; exact hk
        have HN : Hid (opV 25 l = coalV (l.drop (i + 1))) := Lib.hid (by rw [HI.out, HS.out, if_pos hk])
        clear HS hk
        go_wp2_with fail
        go_roundw
        case rel => exact ⟨i + 1, by omega, by go_num, HN, HW⟩
        case measure => simp [intOf]; omega
      · have e1 : (x.k != 0) = true := by rw [bne_iff_ne]; exact hk
        have HV : Hid (opV 25 l = x) := Lib.hid (by rw [HI.out, HS.out, if_neg hk])
        clear HS hk
        go_wp2_with fail
        have HB := ((HW.out.2.2.set_ 0 (.int .i64 (x).k)).set_ 1 (.int .i64 (x).n)).set_ 2 (.string (x).s)
        have k0 := HB.cell 0
        have k1 := HB.cell 1
        have k2 := HB.cell 2
        simp at k0 k1 k2
        exact bodyPost_ret (v := .agg #[.int .i64 (x).k, .int .i64 (x).n, .string (x).s]) (by simp [results, Tryz.results58, go_sem, k0, k1, k2]) rfl ⟨by first | (rw [HV.out]; done) | (rw [HV.out]; rfl), ((HW.out.1.setCell (p := ⟨w.heap.size + 1, 0, none⟩) (by simp <;> omega) _).setCell (p := ⟨w.heap.size + 1, 1, none⟩) (by simp <;> omega) _).setCell (p := ⟨w.heap.size + 1, 2, none⟩) (by simp <;> omega) _⟩
    have hlf : decide ((i : Int) < (l.length : Int)) = false := decide_eq_false (by omega)
    have HV : Hid (opV 25 l = zV) := Lib.hid (by rw [HI.out, List.drop_eq_nil_of_le (by omega)]; rfl)
    clear q0 q1 q2 f0 f1 f2
    go_wp2_with fail
    refine (rNull_any _).mono ?_
    rintro u w4 ⟨rfl, hb4⟩
    have H2 := Lib.hid (And.intro (thn HW.out.1 hb4) (And.intro (HW.out.2.1.below hb4 HW.out.2.1.lt) (HW.out.2.2.below hb4 HW.out.2.2.lt)))
    clear hb4
    have hzb := H2.out.2.2
    have q0 := hzb.cell 0
    have q1 := hzb.cell 1
    have q2 := hzb.cell 2
    simp only [List.getElem?_toArray, List.getElem?_cons_succ, List.getElem?_cons_zero] at q0 q1 q2
    have f0 := hzb.frozen 0
    have f1 := hzb.frozen 1
    have f2 := hzb.frozen 2
    have hzl := hzb.lt
    go_wp2_with fail
    have HB := ((hzb.set_ 0 (.int .i64 0)).set_ 1 (.int .i64 0)).set_ 2 (.string ⟨#[]⟩)
    have k0 := HB.cell 0
    have k1 := HB.cell 1
    have k2 := HB.cell 2
    simp at k0 k1 k2
    exact bodyPost_ret (v := .agg #[.int .i64 0, .int .i64 0, .string ⟨#[]⟩]) (by simp [results, Tryz.results58, go_sem, k0, k1, k2]) rfl ⟨by first | (rw [HV.out]; done) | (rw [HV.out]; rfl), ((H2.out.1.setCell (p := ⟨w.heap.size + 1, 0, none⟩) (by simp <;> omega) _).setCell (p := ⟨w.heap.size + 1, 1, none⟩) (by simp <;> omega) _).setCell (p := ⟨w.heap.size + 1, 2, none⟩) (by simp <;> omega) _⟩
set_option maxHeartbeats 8000000 in
set_option maxRecDepth 100000 in
theorem valS (op n m kind : Int) (lit : V) (A' R : Option Addr) (an rn c' d : Nat) (A : Option Addr) (c : Nat) (l : List V) (w : World) (h4 : 4 ≤ op) (h17 : op ≤ 17) (hr : VReads w w.heap.size A l) (hm : manyB op l.length = true) (_hok : ∀ v ∈ l, v.ok = true) (hn : l.length ≤ 1000000) (hs : ∀ v ∈ l, v.s.size ≤ 1000000) :
    Calls Tryz.prog 58 #[.agg #[.int .i64 op, .int .i64 n, .int .i64 m, .int .i64 kind, .int .i64 lit.k, .int .i64 lit.n, .string lit.s, .slice A' an c', .slice R rn d], .slice A l.length c] w fun e w' => e = .returned (.agg #[.int .i64 (opV op l).k, .int .i64 (opV op l).n, .string (opV op l).s]) ∧ Below w.heap.size w w' := by
  have H0 : Hid (Below w.heap.size w ((w.alloc (.cells #[.int .i64 op, .int .i64 n, .int .i64 m, .int .i64 kind, .int .i64 lit.k, .int .i64 lit.n, .string lit.s, .slice A' an c', .slice R rn d] 29)).alloc (.cells #[.int .i64 0, .int .i64 0, .string ⟨#[]⟩] 25)) ∧ Blk ((w.alloc (.cells #[.int .i64 op, .int .i64 n, .int .i64 m, .int .i64 kind, .int .i64 lit.k, .int .i64 lit.n, .string lit.s, .slice A' an c', .slice R rn d] 29)).alloc (.cells #[.int .i64 0, .int .i64 0, .string ⟨#[]⟩] 25)) w.heap.size 29 #[.int .i64 op, .int .i64 n, .int .i64 m, .int .i64 kind, .int .i64 lit.k, .int .i64 lit.n, .string lit.s, .slice A' an c', .slice R rn d] ∧ Blk ((w.alloc (.cells #[.int .i64 op, .int .i64 n, .int .i64 m, .int .i64 kind, .int .i64 lit.k, .int .i64 lit.n, .string lit.s, .slice A' an c', .slice R rn d] 29)).alloc (.cells #[.int .i64 0, .int .i64 0, .string ⟨#[]⟩] 25)) (w.heap.size + 1) 25 #[.int .i64 0, .int .i64 0, .string ⟨#[]⟩]) := Lib.hid ⟨al (al (Below.refl _ _) _) _, (Blk.new w _ _).alloc _, Blk.new' (by simp)⟩
  have HR := Lib.hid hr
  have h0 : 0 < l.length := (many_le hm).2
  have HSt : Hid (∀ w1, Below w.heap.size w w1 → Calls Tryz.prog 96 #[.int .i64 op, .slice A l.length c] w1 fun e w' => e = .returned (.agg #[.int .i64 (strictV op (l.headD zV) (l.getLast?.getD zV)).k, .int .i64 (strictV op (l.headD zV) (l.getLast?.getD zV)).n, .string (strictV op (l.headD zV) (l.getLast?.getD zV)).s]) ∧ Below w1.heap.size w1 w') := Lib.hid fun w1 hb => strict_any op A c l w1 h4 h17 (hr.below hb hb.size) h0 hn hs
  have HZn := Lib.hid (opS_null (l := l) h4 h17)
  have HZs := Lib.hid (opS_none (l := l) h4 h17)
  have e3 : (op == 3) = false := beq_eq_false_iff_ne.2 (by omega)
  have e18 : (op == 18) = false := beq_eq_false_iff_ne.2 (by omega)
  have e19 : (op == 19) = false := beq_eq_false_iff_ne.2 (by omega)
  have e20 : (op == 20) = false := beq_eq_false_iff_ne.2 (by omega)
  have e21 : (op == 21) = false := beq_eq_false_iff_ne.2 (by omega)
  have e22 : (op == 22) = false := beq_eq_false_iff_ne.2 (by omega)
  have e23 : (op == 23) = false := beq_eq_false_iff_ne.2 (by omega)
  have e24 : (op == 24) = false := beq_eq_false_iff_ne.2 (by omega)
  have e25 : (op == 25) = false := beq_eq_false_iff_ne.2 (by omega)
  clear hr _hok hm h4 h17 hs
  go_enter Tryz.func58, Tryz.ntmps58
  go_wp2_with fail
  go_loopw [7] (fun iv wr => ∃ i : Nat, i ≤ l.length ∧ iv = .int .i64 i ∧ Hid ((l.take i).any (fun v => v.k == 0) = false) ∧ Hid (Below w.heap.size w wr ∧ Blk wr w.heap.size 29 #[.int .i64 op, .int .i64 n, .int .i64 m, .int .i64 kind, .int .i64 lit.k, .int .i64 lit.n, .string lit.s, .slice A' an c', .slice R rn d] ∧ Blk wr (w.heap.size + 1) 25 #[.int .i64 0, .int .i64 0, .string ⟨#[]⟩])) (fun iv _ => l.length - (intOf iv).toNat)
  case atStart => exact ⟨0, Nat.zero_le _, rfl, Lib.hid rfl, H0⟩
  case round =>
    obtain ⟨i, hi, rfl, HI, HW⟩ := hrel
    by_cases hlt : i < l.length
    · have hlti : (i : Int) < (l.length : Int) := by omega
      have hi0 : (0 : Int) ≤ (i : Int) := by omega
      obtain ⟨b, o, rfl, hblk, x0, x1, x2⟩ := (HR.out.below HW.out.1 HW.out.1.size).at_ hlt
      have HT := Lib.hid (anyZ_take hlt HI.out)
      have HS := Lib.hid (fun h => anyZ_stop hlt h)
      generalize l[i] = x at *
      by_cases hk : x.k = 0
      · have e1 : (x.k == 0) = true := beq_iff_eq.2 hk
        have HV : Hid (opV op l = zV) := Lib.hid (HZn.out (HS.out e1))
        clear HS HT hk
        go_wp2_with fail
        refine (rNull_any _).mono ?_
        rintro u w4 ⟨rfl, hb4⟩
        have H2 := Lib.hid (And.intro (thn HW.out.1 hb4) (And.intro (HW.out.2.1.below hb4 HW.out.2.1.lt) (HW.out.2.2.below hb4 HW.out.2.2.lt)))
        clear hb4
        have hzb := H2.out.2.2
        have q0 := hzb.cell 0
        have q1 := hzb.cell 1
        have q2 := hzb.cell 2
        simp only [List.getElem?_toArray, List.getElem?_cons_succ, List.getElem?_cons_zero] at q0 q1 q2
        have f0 := hzb.frozen 0
        have f1 := hzb.frozen 1
        have f2 := hzb.frozen 2
        have hzl := hzb.lt
        go_wp2_with fail
        have HB := ((hzb.set_ 0 (.int .i64 0)).set_ 1 (.int .i64 0)).set_ 2 (.string ⟨#[]⟩)
        have k0 := HB.cell 0
        have k1 := HB.cell 1
        have k2 := HB.cell 2
        simp at k0 k1 k2
        exact bodyPost_ret (v := .agg #[.int .i64 0, .int .i64 0, .string ⟨#[]⟩]) (by simp [results, Tryz.results58, go_sem, k0, k1, k2]) rfl ⟨by first | (rw [HV.out]; done) | (rw [HV.out]; rfl), ((H2.out.1.setCell (p := ⟨w.heap.size + 1, 0, none⟩) (by simp <;> omega) _).setCell (p := ⟨w.heap.size + 1, 1, none⟩) (by simp <;> omega) _).setCell (p := ⟨w.heap.size + 1, 2, none⟩) (by simp <;> omega) _⟩
      · have e1 : (x.k == 0) = false := beq_eq_false_iff_ne.2 hk
        have HN : Hid ((l.take (i + 1)).any (fun v => v.k == 0) = false) := Lib.hid (by rw [HT.out, e1])
        clear HS HT hk
        go_wp2_with fail
        go_roundw
        case rel => exact ⟨i + 1, by omega, by go_num, HN, HW⟩
        case measure => simp [intOf]; omega
    have hlf : decide ((i : Int) < (l.length : Int)) = false := decide_eq_false (by omega)
    have HV : Hid (opV op l = strictV op (l.headD zV) (l.getLast?.getD zV)) := Lib.hid (HZs.out (by have := HI.out; rwa [List.take_of_length_le (by omega)] at this))
    have a0 := HW.out.2.1
    have p0 := a0.cell 0
    simp only [List.getElem?_toArray, List.getElem?_cons_zero] at p0
    clear a0
    generalize strictV op (l.headD zV) (l.getLast?.getD zV) = sv at *
    go_wp2_with fail
    refine (HSt.out _ HW.out.1).mono ?_
    rintro u w4 ⟨rfl, hb4⟩
    have H2 := Lib.hid (And.intro (thn HW.out.1 hb4) (And.intro (HW.out.2.1.below hb4 HW.out.2.1.lt) (HW.out.2.2.below hb4 HW.out.2.2.lt)))
    clear hb4
    have hzb := H2.out.2.2
    have q0 := hzb.cell 0
    have q1 := hzb.cell 1
    have q2 := hzb.cell 2
    simp only [List.getElem?_toArray, List.getElem?_cons_succ, List.getElem?_cons_zero] at q0 q1 q2
    have f0 := hzb.frozen 0
    have f1 := hzb.frozen 1
    have f2 := hzb.frozen 2
    have hzl := hzb.lt
    go_wp2_with fail
    have HB := ((hzb.set_ 0 (.int .i64 (sv).k)).set_ 1 (.int .i64 (sv).n)).set_ 2 (.string (sv).s)
    have k0 := HB.cell 0
    have k1 := HB.cell 1
    have k2 := HB.cell 2
    simp at k0 k1 k2
    exact bodyPost_ret (v := .agg #[.int .i64 (sv).k, .int .i64 (sv).n, .string (sv).s]) (by simp [results, Tryz.results58, go_sem, k0, k1, k2]) rfl ⟨by first | (rw [HV.out]; done) | (rw [HV.out]; rfl), ((H2.out.1.setCell (p := ⟨w.heap.size + 1, 0, none⟩) (by simp <;> omega) _).setCell (p := ⟨w.heap.size + 1, 1, none⟩) (by simp <;> omega) _).setCell (p := ⟨w.heap.size + 1, 2, none⟩) (by simp <;> omega) _⟩
end Go.Proofs.YtcbcncaoabablaaGreatDoor
namespace Go.Proofs.YtcbcncaoabablaaGreatDoor
open Go.RowKit Go.Deep

theorem RValue_any (op n m kind : Int) (lit : V) (A' R : Option Addr) (an rn c' d : Nat) (A : Option Addr) (c : Nat) (l : List V) (w : World) (h4 : 4 ≤ op) (h25 : op ≤ 25) (hr : VReads w w.heap.size A l) (hm : manyB op l.length = true) (hok : ∀ v ∈ l, v.ok = true) (hn : l.length ≤ 1000000) (ht : op = 19 ∨ op = 20 → chkT l = 0) (ht2 : op = 21 → chkT [l.headD zV] = 0) :
    Calls Tryz.prog 58 #[.agg #[.int .i64 op, .int .i64 n, .int .i64 m, .int .i64 kind, .int .i64 lit.k, .int .i64 lit.n, .string lit.s, .slice A' an c', .slice R rn d], .slice A l.length c] w fun e w' => e = .returned (.agg #[.int .i64 (opV op l).k, .int .i64 (opV op l).n, .string (opV op l).s]) ∧ Below w.heap.size w w' := by
  by_cases h17 : op ≤ 17
  · exact valS op n m kind lit A' R an rn c' d A c l w h4 h17 hr hm hok hn fun v hv => Nat.le_trans (ok_size (hok v hv)) (by decide)
  have hop : op = 18 ∨ op = 19 ∨ op = 20 ∨ op = 21 ∨ op = 22 ∨ op = 23 ∨ op = 24 ∨ op = 25 := by omega
  rcases hop with rfl | rfl | rfl | rfl | rfl | rfl | rfl | rfl
  · exact val18 n m kind lit A' R an rn c' d A c l w hr hm hok hn
  · exact val19 n m kind lit A' R an rn c' d A c l w hr hm hok hn (ht (.inl rfl))
  · exact val20 n m kind lit A' R an rn c' d A c l w hr hm hok hn (ht (.inr rfl))
  · exact val21 n m kind lit A' R an rn c' d A c l w hr hm hok hn (ht2 rfl)
  · exact val22 n m kind lit A' R an rn c' d A c l w hr hm hok hn
  · exact val23 n m kind lit A' R an rn c' d A c l w hr hm hok hn
  · exact val24 n m kind lit A' R an rn c' d A c l w hr hm hok hn
  · exact val25 n m kind lit A' R an rn c' d A c l w hr hm hok hn
theorem vreads_own {w : World} {base : Nat} {T : TypeId} {v : Value} {l : List V} (h : w.ownsRow base T 3 v l.length (vcells l)) : ∃ (A : Option Addr) (c : Nat), v = .slice A l.length c ∧ VReads w w.heap.size A l := by
  obtain ⟨A, c, e, _, _, k, _⟩ := own_reads h
  exact ⟨A, c, e, k⟩
/-- the kinds of the arguments, their values -/
theorem args_fit (row : List V) (cs : List Co) (hrow : fitsL row cs = true) (hrok : ∀ v ∈ row, v.ok = true) (hreal : ∀ k ∈ cs, k.1 ≠ 0) (q : Nat) : ∀ (l : List E) (ks : List Co), (∀ x ∈ l, shapedE q x = true) → kindL cs l = some ks → (∀ x ∈ l, ∃ cx, kindE cs x = some cx) ∧ fitsL (l.map (evalE row)) ks = true ∧ (∀ v ∈ l.map (evalE row), v.ok = true) ∧ ∀ k ∈ ks, k.1 ≠ 0 := by
  intro l
  induction l with
  | nil =>
    intro ks _ hks
    simp only [kindL, Option.some.injEq] at hks
    subst hks
    exact ⟨fun x hx => (by cases hx), rfl, fun v hv => (by cases hv), fun k hk => by cases hk⟩
  | cons x l ihl =>
    intro ks hsh hks
    rw [kindL] at hks
    cases hx : kindE cs x with
    | none => rw [hx] at hks; cases hks
    | some cx =>
      rw [hx] at hks
      cases hl2 : kindL cs l with
      | none => simp only [hl2] at hks; cases hks
      | some r =>
        simp only [hl2, Option.some.injEq] at hks
        subst hks
        have h1 := evalE_fits row cs hrow hrok hreal q x cx (hsh x (List.mem_cons_self ..)) hx
        have h2 := ihl r (fun y hy => hsh y (List.mem_cons_of_mem _ hy)) hl2
        refine ⟨?_, ?_, ?_, ?_⟩
        · intro y hy
          rcases List.mem_cons.1 hy with rfl | hy
          · exact ⟨cx, hx⟩
          · exact h2.1 y hy
        · rw [List.map_cons, fitsL, h1.2.1, h2.2.1]; rfl
        · intro v hv
          rcases List.mem_cons.1 hv with rfl | hv
          · exact h1.1
          · exact h2.2.2.1 v hv
        · intro k hk
          rcases List.mem_cons.1 hk with rfl | hk
          · exact h1.2.2
          · exact h2.2.2.2 k hk
theorem combE_truth {op : Int} {ks : List Co} {c : Co} (h : combE op 0 0 ks = some c) (ho : op = 19 ∨ op = 20 ∨ op = 21) : allK ks 2 = true := by
  unfold combE at h
  rcases ho with rfl | rfl | rfl <;> (simp at h; exact h.1)
set_option maxHeartbeats 8000000 in
set_option maxRecDepth 100000 in
theorem REval_any (row : List V) (cs : List Co) (hrow : fitsL row cs = true) (hrok : ∀ v ∈ row, v.ok = true) (hreal : ∀ k ∈ cs, k.1 ≠ 0) : ∀ (k q : Nat) (e : E) (cc : Co) (A R : Option Addr) (c d : Nat) (Ar : Option Addr) (cr : Nat) (w : World), nodesE e < k → k ≤ 1000000 → shapedE q e = true → kindE cs e = some cc → LOk w (Lo w.heap.size) A e.args → VReads w w.heap.size Ar row → row.length ≤ 1000 →
    Calls Tryz.prog 26 #[e.val A c R d, .slice Ar row.length cr] w fun x w' => x = .returned (.agg #[.int .i64 (evalE row e).k, .int .i64 (evalE row e).n, .string (evalE row e).s]) ∧ Below w.heap.size w w' := by
  intro k
  induction k with
  | zero => intro q e cc A R c d Ar cr w h; exact absurd h (Nat.not_lt_zero _)
  | succ k ih =>
    intro q e cc A R c d Ar cr w hk hk1 hsh hkind hA hr hrl
    obtain ⟨q, rfl⟩ : ∃ q', q = q' + 1 := by
      cases q with
      | zero => rw [shapedE_zero] at hsh; cases hsh
      | succ q => exact ⟨q, rfl⟩
    rw [shapedE_succ, Bool.and_eq_true] at hsh
    have hnc := (node_cases hsh.1).2
    have hnE := nodesE_args e
    have HA := Lib.hid (And.intro hA (And.intro hr hsh.2))
    have IH := Lib.hid ih
    have HK := Lib.hid (hkind.symm.trans (kindE_of cs e))
    have HV0 := Lib.hid (evalE_of row e)
    clear ih hA hr hsh hkind
    unfold E.val
    by_cases ho1 : e.op = 1
    · obtain ⟨n, hn⟩ : ∃ n : Nat, e.n = n := ⟨e.n.toNat, by omega⟩
      have hke : cs[n]? = some cc := by
        have h := HK.out
        rw [if_neg (by omega), if_pos ho1, if_neg (by omega), hn] at h
        exact h.symm
      obtain ⟨v, hv, _⟩ := fits_at hrow hke
      have hlt := (List.getElem?_eq_some_iff.1 hv).1
      have HR : Hid (evalE row e = row[n]) := Lib.hid (by rw [HV0.out, if_pos ho1, hn]; show (row[n]?).getD zV = _; rw [List.getElem?_eq_getElem hlt]; rfl)
      have HB1 : Hid (VReads ((w.alloc (.cells #[.int .i64 1, .int .i64 (n : Nat), .int .i64 e.m, .int .i64 e.kind, .int .i64 e.lit.k, .int .i64 e.lit.n, .string e.lit.s, .slice A e.args.length c, .slice R e.rels.length d] 29)).alloc (.cells #[.int .i64 0, .int .i64 0, .string ⟨#[]⟩] 25)) ((w.alloc (.cells #[.int .i64 1, .int .i64 (n : Nat), .int .i64 e.m, .int .i64 e.kind, .int .i64 e.lit.k, .int .i64 e.lit.n, .string e.lit.s, .slice A e.args.length c, .slice R e.rels.length d] 29)).alloc (.cells #[.int .i64 0, .int .i64 0, .string ⟨#[]⟩] 25)).heap.size Ar row) := Lib.hid (HA.out.2.1.below (al (al (Below.refl _ _) _) _) (by simp <;> omega))
      rw [ho1, hn]
      have hlti : (n : Int) < (row.length : Int) := by omega
      have hn0 : (0 : Int) ≤ (n : Int) := by omega
      obtain ⟨b, o, rfl, hblk, c0, c1, c2⟩ := HB1.out.at_ hlt
      clear ho1 hn hnc hnE hke hv HB1 HK HV0
      generalize row[n] = v at *
      go_enter Tryz.func26, Tryz.ntmps26
      go_wp2_with fail
      exact bodyPost_ret (v := .agg #[.int .i64 v.k, .int .i64 v.n, .string v.s]) (by simp [results, Tryz.results26, go_sem]) rfl ⟨by rw [HR.out], al (al (Below.refl _ _) _) _⟩
    have ho2 : e.op ≠ 2 := by
      intro h
      have h2 := HK.out
      rw [if_pos h] at h2
      cases h2
    obtain ⟨ks, hks, hcomb⟩ : ∃ ks, kindL cs e.args = some ks ∧ combE e.op e.kind e.lit.k ks = some cc := by
      have h := HK.out
      rw [if_neg ho2, if_neg ho1] at h
      cases hl : kindL cs e.args with
      | none => rw [hl] at h; cases h
      | some ks => rw [hl] at h; exact ⟨ks, rfl, h.symm⟩
    have hargs := args_fit row cs hrow hrok hreal q e.args ks (shapedL_mem HA.out.2.2) hks
    have hl16 : e.args.length ≤ 16 := by
      rcases hnc with h | h | h | ⟨_, _, hm⟩
      · exact absurd h.1 ho1
      · exact absurd h.1 ho2
      · rw [h.2.2.2.2]; simp
      · exact (many_le hm).1
    have HVl : Hid (∀ (A1 : Option Addr) (w1 : World) (A2 : Option Addr) (c2 : Nat), VReads w1 w1.heap.size A2 (e.args.map (evalE row)) →
        Calls Tryz.prog 58 #[.agg #[.int .i64 e.op, .int .i64 e.n, .int .i64 e.m, .int .i64 e.kind, .int .i64 e.lit.k, .int .i64 e.lit.n, .string e.lit.s, .slice A1 e.args.length c, .slice R e.rels.length d], .slice A2 (e.args.map (evalE row)).length c2] w1 fun x w' => x = .returned (.agg #[.int .i64 (evalE row e).k, .int .i64 (evalE row e).n, .string (evalE row e).s]) ∧ Below w1.heap.size w1 w') := Lib.hid fun A1 w1 A2 c2 hk2 => by
      rcases hnc with h | h | h | ⟨h4, h25, hm⟩
      · exact absurd h.1 ho1
      · exact absurd h.1 ho2
      · rw [HV0.out, if_neg ho1, if_pos h.1, h.1]
        exact val3 e.n e.m e.kind e.lit A1 R _ _ c d _ w1
      · rw [HV0.out, if_neg ho1, if_neg (by omega)]
        have hcm : combE e.op 0 0 ks = some cc := by rw [← combE_any e.op e.kind e.lit.k ks h4]; exact hcomb
        have hlen : (e.args.map (evalE row)).length = e.args.length := List.length_map ..
        have h0 : 0 < (e.args.map (evalE row)).length := by rw [hlen]; exact (many_le hm).2
        refine RValue_any e.op e.n e.m e.kind e.lit A1 R _ _ c d A2 c2 _ w1 h4 h25 hk2 (by rw [hlen]; exact hm) hargs.2.2.1 (by omega) (fun ho => chkT_fits hargs.2.1 (combE_truth hcm (by omega)) hargs.2.2.1 (by omega)) (fun ho => ?_)
        have ha := combE_truth hcm (.inr (.inr ho))
        have h1 : (e.args.map (evalE row)).length = 1 := by rw [hlen]; exact many_one 21 _ (by have h := hm; rw [ho] at h; exact h) (by decide)
        obtain ⟨x, hx⟩ := one_of h1
        have := chkT_fits hargs.2.1 ha hargs.2.2.1 (by omega)
        rw [hx] at this ⊢
        exact this
    have e1 : (e.op == 1) = false := beq_eq_false_iff_ne.2 ho1
    obtain ⟨i0, hi, hz0, hz1, hz2⟩ := info_parts infoV
    have HAr := Lib.hid hargs.1
    have H0 : Hid (Below w.heap.size w ((w.alloc (.cells #[.int .i64 e.op, .int .i64 e.n, .int .i64 e.m, .int .i64 e.kind, .int .i64 e.lit.k, .int .i64 e.lit.n, .string e.lit.s, .slice A e.args.length c, .slice R e.rels.length d] 29)).alloc (.cells #[.int .i64 0, .int .i64 0, .string ⟨#[]⟩] 25)) ∧ Blk ((w.alloc (.cells #[.int .i64 e.op, .int .i64 e.n, .int .i64 e.m, .int .i64 e.kind, .int .i64 e.lit.k, .int .i64 e.lit.n, .string e.lit.s, .slice A e.args.length c, .slice R e.rels.length d] 29)).alloc (.cells #[.int .i64 0, .int .i64 0, .string ⟨#[]⟩] 25)) w.heap.size 29 #[.int .i64 e.op, .int .i64 e.n, .int .i64 e.m, .int .i64 e.kind, .int .i64 e.lit.k, .int .i64 e.lit.n, .string e.lit.s, .slice A e.args.length c, .slice R e.rels.length d] ∧ Blk ((w.alloc (.cells #[.int .i64 e.op, .int .i64 e.n, .int .i64 e.m, .int .i64 e.kind, .int .i64 e.lit.k, .int .i64 e.lit.n, .string e.lit.s, .slice A e.args.length c, .slice R e.rels.length d] 29)).alloc (.cells #[.int .i64 0, .int .i64 0, .string ⟨#[]⟩] 25)) (w.heap.size + 1) 25 #[.int .i64 0, .int .i64 0, .string ⟨#[]⟩] ∧ ((w.alloc (.cells #[.int .i64 e.op, .int .i64 e.n, .int .i64 e.m, .int .i64 e.kind, .int .i64 e.lit.k, .int .i64 e.lit.n, .string e.lit.s, .slice A e.args.length c, .slice R e.rels.length d] 29)).alloc (.cells #[.int .i64 0, .int .i64 0, .string ⟨#[]⟩] 25)).ownsRow (w.heap.size + 1 + 1) 25 3 (.slice none 0 0) ([] : List V).length (vcells ([] : List V)) ∧ w.heap.size + 1 + 1 ≤ ((w.alloc (.cells #[.int .i64 e.op, .int .i64 e.n, .int .i64 e.m, .int .i64 e.kind, .int .i64 e.lit.k, .int .i64 e.lit.n, .string e.lit.s, .slice A e.args.length c, .slice R e.rels.length d] 29)).alloc (.cells #[.int .i64 0, .int .i64 0, .string ⟨#[]⟩] 25)).heap.size) := Lib.hid ⟨al (al (Below.refl _ _) _) _, (Blk.new w _ _).alloc _, Blk.new' (by simp), ⟨rfl, .inl ⟨rfl, rfl⟩⟩, by simp⟩
    have hln := nodesL_len e.args
    clear hnc ho1 ho2 hargs hcomb hks
    go_enter Tryz.func26, Tryz.ntmps26
    go_wp2_with fail
    go_loopw [5, 6] (fun v iv wr => ∃ (j : Nat) (ks : List V), j ≤ e.args.length ∧ iv = .int .i64 j ∧ Hid (Below w.heap.size w wr ∧ Blk wr w.heap.size 29 #[.int .i64 e.op, .int .i64 e.n, .int .i64 e.m, .int .i64 e.kind, .int .i64 e.lit.k, .int .i64 e.lit.n, .string e.lit.s, .slice A e.args.length c, .slice R e.rels.length d] ∧ Blk wr (w.heap.size + 1) 25 #[.int .i64 0, .int .i64 0, .string ⟨#[]⟩] ∧ wr.ownsRow (w.heap.size + 1 + 1) 25 3 v ks.length (vcells ks) ∧ w.heap.size + 1 + 1 ≤ wr.heap.size) ∧ Hid (ks.length = j ∧ ks = (e.args.take j).map (evalE row))) (fun _ iv _ => e.args.length - (intOf iv).toNat)
    case atStart => exact ⟨0, [], Nat.zero_le _, rfl, H0, Lib.hid ⟨rfl, rfl⟩⟩
    case round =>
      clear H0
      obtain ⟨j, ks, hj, rfl, HW, HK⟩ := hrel
      have a0 := HW.out.2.1
      have y0 := a0.cell 0
      have y1 := a0.cell 1
      have y2 := a0.cell 2
      have y3 := a0.cell 3
      have y4 := a0.cell 4
      have y5 := a0.cell 5
      have y6 := a0.cell 6
      have y7 := a0.cell 7
      have y8 := a0.cell 8
      simp only [List.getElem?_toArray, List.getElem?_cons_succ, List.getElem?_cons_zero] at y0 y1 y2 y3 y4 y5 y6 y7 y8
      clear a0
      by_cases hlt : j < e.args.length
      · have hlti : (j : Int) < (e.args.length : Int) := by omega
        have hj0 : (0 : Int) ≤ (j : Int) := by omega
        obtain ⟨b, o, rfl, hb, he⟩ := (HA.out.1.below HW.out.1 HW.out.1.size).at_ hlt
        obtain ⟨z0, z1, z2, z3, z4, z5, z6, ⟨A', c', z7, z8⟩, R', d', z9, z10⟩ := EOk.mk_.1 he
        have x0 : wr.cell? ⟨b, o + j * 9, none⟩ = some (.int .i64 e.args[j].op) := z0
        have x1 : wr.cell? ⟨b, o + j * 9 + 1, none⟩ = some (.int .i64 e.args[j].n) := z1
        have x2 : wr.cell? ⟨b, o + j * 9 + 2, none⟩ = some (.int .i64 e.args[j].m) := z2
        have x3 : wr.cell? ⟨b, o + j * 9 + 3, none⟩ = some (.int .i64 e.args[j].kind) := z3
        have x4 : wr.cell? ⟨b, o + j * 9 + 4, none⟩ = some (.int .i64 e.args[j].lit.k) := z4
        have x5 : wr.cell? ⟨b, o + j * 9 + 5, none⟩ = some (.int .i64 e.args[j].lit.n) := z5
        have x6 : wr.cell? ⟨b, o + j * 9 + 6, none⟩ = some (.string e.args[j].lit.s) := z6
        have x7 : wr.cell? ⟨b, o + j * 9 + 7, none⟩ = some (.slice A' e.args[j].args.length c') := z7
        have x8 : wr.cell? ⟨b, o + j * 9 + 8, none⟩ = some (.slice R' e.args[j].rels.length d') := z9
        have hmm := nodesL_mem (List.getElem_mem hlt)
        obtain ⟨cx, hcx⟩ := HAr.out e.args[j] (List.getElem_mem hlt)
        have HQ : Hid (Calls Tryz.prog 26 #[e.args[j].val A' c' R' d', .slice Ar row.length cr] wr fun x w' => x = .returned (.agg #[.int .i64 (evalE row e.args[j]).k, .int .i64 (evalE row e.args[j]).n, .string (evalE row e.args[j]).s]) ∧ Below wr.heap.size wr w') := Lib.hid
          (IH.out q e.args[j] cx A' R' c' d' Ar cr wr (by omega) (by omega) (shapedL_mem HA.out.2.2 _ (List.getElem_mem hlt)) hcx z8 (HA.out.2.1.below HW.out.1 HW.out.1.size) hrl)
        have HN : Hid (ks ++ [evalE row e.args[j]] = (e.args.take (j + 1)).map (evalE row)) := Lib.hid (by rw [List.take_succ_eq_append_getElem hlt, List.map_append, ← HK.out.2]; rfl)
        have hks := HK.out.1
        clear z0 z1 z2 z3 z4 z5 z6 z7 z8 z9 z10 he hmm hcx
        generalize evalE row e.args[j] = vj at *
        generalize e.args[j] = ej at *
        unfold E.val at HQ
        have hb1 : ks.length + 1 ≤ maxLen := by unfold maxLen; omega
        have hb2 : (ks.length + 1) * 32 ≤ 140737488355328 := by omega
        go_wp2_with fail
        refine HQ.out.mono ?_
        rintro x w3 ⟨rfl, hb3⟩
        have H3 : Hid (Below w.heap.size w w3 ∧ Blk w3 w.heap.size 29 #[.int .i64 e.op, .int .i64 e.n, .int .i64 e.m, .int .i64 e.kind, .int .i64 e.lit.k, .int .i64 e.lit.n, .string e.lit.s, .slice (some ⟨b, o, none⟩) e.args.length c, .slice R e.rels.length d] ∧ Blk w3 (w.heap.size + 1) 25 #[.int .i64 0, .int .i64 0, .string ⟨#[]⟩] ∧ w3.ownsRow (w.heap.size + 1 + 1) 25 3 u5 ks.length (vcells ks) ∧ w.heap.size + 1 + 1 ≤ w3.heap.size) := Lib.hid ⟨thn HW.out.1 hb3, HW.out.2.1.below hb3 HW.out.2.1.lt, HW.out.2.2.1.below hb3 HW.out.2.2.1.lt, own_below HW.out.2.2.2.1 hb3, Nat.le_trans HW.out.2.2.2.2 hb3.size⟩
        clear hb3 x0 x1 x2 x3 x4 x5 x6 x7 x8 y0 y1 y2 y3 y4 y5 y6 y7 y8
        have hRd : Reads (w3.alloc (.cells #[.int .i64 vj.k, .int .i64 vj.n, .string vj.s] 25)) (w3.heap.size + 1) 3 (some ⟨w3.heap.size, 0, none⟩) 1 (vcells [vj]) := (VReads.one (Blk.new w3 _ _) (Nat.lt_succ_self _)).reads
        have hsz3 := H3.out.2.2.2.2
        go_wp2_with (at_builtin; refine wpList_append_any _ rfl (.tmp 22) (.tmp 30) 57 rfl (w.heap.size + 1 + 1) 25 i0 (.agg #[.int .i64 0, .int .i64 0, .string ⟨#[]⟩]) 3 32 Tryz.underlying57 hi hz0 hz1 hz2 rfl (by decide) _ _ _ rfl (H3.out.2.2.2.1.alloc _) (w3.heap.size + 1) _ 1 1 (vcells [vj]) rfl hRd (vcells_one _) hb1 hb2 (by simp; omega) ?_)
        intro v' w4 hown4 hg4 _
        have HF : Hid (Below w.heap.size w w4 ∧ Blk w4 w.heap.size 29 #[.int .i64 e.op, .int .i64 e.n, .int .i64 e.m, .int .i64 e.kind, .int .i64 e.lit.k, .int .i64 e.lit.n, .string e.lit.s, .slice (some ⟨b, o, none⟩) e.args.length c, .slice R e.rels.length d] ∧ Blk w4 (w.heap.size + 1) 25 #[.int .i64 0, .int .i64 0, .string ⟨#[]⟩] ∧ w4.ownsRow (w.heap.size + 1 + 1) 25 3 v' (ks ++ [vj]).length (vcells (ks ++ [vj])) ∧ w.heap.size + 1 + 1 ≤ w4.heap.size) := Lib.hid (by
          have b4 : Below (w.heap.size + 1 + 1) w3 w4 := ((al (Below.refl _ _) _).mono hsz3 |>.grown hg4 (by simp <;> omega) (own_base H3.out.2.2.2.1))
          exact ⟨H3.out.1.trans (b4.mono (by omega)), H3.out.2.1.below b4 (by omega), H3.out.2.2.1.below b4 (by omega), by rw [vcells_append, List.length_append, hks]; exact hown4, Nat.le_trans hsz3 b4.size⟩)
        clear hown4 hg4 hRd hb1 hb2 hsz3
        go_wp2_with fail
        first | exact ⟨⟨j + 1, ks ++ [vj], by omega, by go_num, HF, Lib.hid ⟨by simp [hks], HN.out⟩⟩, by simp [intOf]; omega⟩ | (go_roundw; case rel => exact ⟨j + 1, ks ++ [vj], by omega, by go_num, HF, Lib.hid ⟨by simp [hks], HN.out⟩⟩; case measure => simp [intOf]; omega)
      · have hlf : decide ((j : Int) < (e.args.length : Int)) = false := decide_eq_false (by omega)
        have hkl : ks = e.args.map (evalE row) := by have := HK.out.2; rwa [List.take_of_length_le (by omega)] at this
        obtain ⟨A2, c2, rfl, hk2⟩ := vreads_own HW.out.2.2.2.1
        have HQ : Hid (Calls Tryz.prog 58 #[.agg #[.int .i64 e.op, .int .i64 e.n, .int .i64 e.m, .int .i64 e.kind, .int .i64 e.lit.k, .int .i64 e.lit.n, .string e.lit.s, .slice A e.args.length c, .slice R e.rels.length d], .slice A2 ks.length c2] wr fun x w' => x = .returned (.agg #[.int .i64 (evalE row e).k, .int .i64 (evalE row e).n, .string (evalE row e).s]) ∧ Below wr.heap.size wr w') := Lib.hid (by
          have h := HVl.out A wr A2 c2 (by rw [← hkl]; exact hk2)
          rw [← hkl] at h
          exact h)
        clear hk2 hkl HV0
        generalize hev : evalE row e = ev at *
        go_wp2_with fail
        refine HQ.out.mono ?_
        rintro x w3 ⟨rfl, hb3⟩
        have H3 : Hid (Below w.heap.size w w3 ∧ Blk w3 (w.heap.size + 1) 25 #[.int .i64 0, .int .i64 0, .string ⟨#[]⟩]) := Lib.hid ⟨thn HW.out.1 hb3, HW.out.2.2.1.below hb3 HW.out.2.2.1.lt⟩
        clear hb3 y0 y1 y2 y3 y4 y5 y6 y7 y8 HQ
        have hzb := H3.out.2
        have q0 := hzb.cell 0
        have q1 := hzb.cell 1
        have q2 := hzb.cell 2
        simp only [List.getElem?_toArray, List.getElem?_cons_succ, List.getElem?_cons_zero] at q0 q1 q2
        have f0 := hzb.frozen 0
        have f1 := hzb.frozen 1
        have f2 := hzb.frozen 2
        have hzl := hzb.lt
        go_wp2_with fail
        have HB := ((hzb.set_ 0 (.int .i64 ev.k)).set_ 1 (.int .i64 ev.n)).set_ 2 (.string ev.s)
        have k0 := HB.cell 0
        have k1 := HB.cell 1
        have k2 := HB.cell 2
        simp at k0 k1 k2
        exact bodyPost_ret (v := .agg #[.int .i64 ev.k, .int .i64 ev.n, .string ev.s]) (by simp [results, Tryz.results26, go_sem, k0, k1, k2]) rfl ⟨by rw [hev], ((H3.out.1.setCell (p := ⟨w.heap.size + 1, 0, none⟩) (by simp <;> omega) _).setCell (p := ⟨w.heap.size + 1, 1, none⟩) (by simp <;> omega) _).setCell (p := ⟨w.heap.size + 1, 2, none⟩) (by simp <;> omega) _⟩
end Go.Proofs.YtcbcncaoabablaaGreatDoor
