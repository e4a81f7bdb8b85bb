/-
  CONTRACT of the reference's Value.
-/
import Derived.Test.YtcbcncaoabablaaGreatDoorGA20
import Derived.Test.YtcbcncaoabablaaGreatDoorGA15
import Derived.Test.YtcbcncaoabablaaGreatDoorGA22
import Derived.StillTailTactics
namespace Go.Proofs.YtcbcncaoabablaaGreatDoor
open Go.RowKit Go.Deep

theorem isE_ok {v : V} (h : v.ok = true) : v.isE true = (v.k == 2 && v.n == 1) := by
  obtain ⟨k, n, s⟩ := v
  unfold V.isE veq
  rcases ok_cases (k := k) (n := n) (s := s) h with ⟨e, _⟩ | ⟨e, _⟩ | ⟨e, e1, e2⟩ | ⟨e, e1, e2⟩ | ⟨e, _⟩
  · subst e; simp
  · subst e; simp
  · subst e e1 e2; simp [b2i]
  · subst e e1 e2; simp [b2i]
  · subst e; simp
theorem rTrue_any (k n : Int) (s : ByteArray) (w : World) :
    Calls Tryz.prog 95 #[.agg #[.int .i64 k, .int .i64 n, .string s]] w fun e w' => e = .returned (.bool (k == 2 && n == 1)) ∧ Below w.heap.size w w' := by
  by_cases hk : k = 2
  · subst hk
    go_enter Tryz.func95, Tryz.ntmps95
    go_wp2_with fail
    go_ret
    exact ⟨by simp, al (Below.refl _ _) _⟩
  · have e : (k == 2) = false := beq_eq_false_iff_ne.2 hk
    have HV : Hid ((k == 2 && n == 1) = false) := Lib.hid (by rw [e]; rfl)
    clear hk
    go_enter Tryz.func95, Tryz.ntmps95
    go_wp2_with fail
    go_ret
    exact ⟨by rw [HV.out]; rfl, al (Below.refl _ _) _⟩
set_option maxHeartbeats 8000000 in
set_option maxRecDepth 100000 in
theorem val19 (n m kind : Int) (lit : V) (A' R : Option Addr) (an rn c' d : Nat) (A : Option Addr) (c : Nat) (l : List V) (w : World) (hr : VReads w w.heap.size A l) (_hm : manyB 19 l.length = true) (_hok : ∀ v ∈ l, v.ok = true) (hn : l.length ≤ 1000000) (ht : chkT l = 0) :
    Calls Tryz.prog 58 #[.agg #[.int .i64 19, .int .i64 n, .int .i64 m, .int .i64 kind, .int .i64 lit.k, .int .i64 lit.n, .string lit.s, .slice A' an c', .slice R rn d], .slice A l.length c] w fun e w' => e = .returned (.agg #[.int .i64 (opV 19 l).k, .int .i64 (opV 19 l).n, .string (opV 19 l).s]) ∧ Below w.heap.size w w' := by
  have H0 : Hid (Below w.heap.size w ((w.alloc (.cells #[.int .i64 19, .int .i64 n, .int .i64 m, .int .i64 kind, .int .i64 lit.k, .int .i64 lit.n, .string lit.s, .slice A' an c', .slice R rn d] 29)).alloc (.cells #[.int .i64 0, .int .i64 0, .string ⟨#[]⟩] 25)) ∧ Blk ((w.alloc (.cells #[.int .i64 19, .int .i64 n, .int .i64 m, .int .i64 kind, .int .i64 lit.k, .int .i64 lit.n, .string lit.s, .slice A' an c', .slice R rn d] 29)).alloc (.cells #[.int .i64 0, .int .i64 0, .string ⟨#[]⟩] 25)) w.heap.size 29 #[.int .i64 19, .int .i64 n, .int .i64 m, .int .i64 kind, .int .i64 lit.k, .int .i64 lit.n, .string lit.s, .slice A' an c', .slice R rn d] ∧ Blk ((w.alloc (.cells #[.int .i64 19, .int .i64 n, .int .i64 m, .int .i64 kind, .int .i64 lit.k, .int .i64 lit.n, .string lit.s, .slice A' an c', .slice R rn d] 29)).alloc (.cells #[.int .i64 0, .int .i64 0, .string ⟨#[]⟩] 25)) (w.heap.size + 1) 25 #[.int .i64 0, .int .i64 0, .string ⟨#[]⟩]) := Lib.hid ⟨al (al (Below.refl _ _) _) _, (Blk.new w _ _).alloc _, Blk.new' (by simp)⟩
  have HX := Lib.hid (rAnd_res A c l ((w.alloc (.cells #[.int .i64 19, .int .i64 n, .int .i64 m, .int .i64 kind, .int .i64 lit.k, .int .i64 lit.n, .string lit.s, .slice A' an c', .slice R rn d] 29)).alloc (.cells #[.int .i64 0, .int .i64 0, .string ⟨#[]⟩] 25)) (hr.below (al (al (Below.refl _ _) _) _) (by simp <;> omega)) (by unfold maxLen; omega) ht)
  have HV : Hid (opV 19 l = resJ false l) := Lib.hid (by unfold resJ; rw [if_pos ht]; rfl)
  clear hr ht _hok _hm
  go_enter Tryz.func58, Tryz.ntmps58
  go_wp2_with fail
  refine HX.out.mono ?_
  rintro u w4 ⟨rfl, hb4⟩
  have H2 := Lib.hid (And.intro (thn H0.out.1 hb4) (And.intro (H0.out.2.1.below hb4 H0.out.2.1.lt) (H0.out.2.2.below hb4 H0.out.2.2.lt)))
  clear hb4
  have hzb := H2.out.2.2
  have q0 := hzb.cell 0
  have q1 := hzb.cell 1
  have q2 := hzb.cell 2
  simp only [List.getElem?_toArray, List.getElem?_cons_succ, List.getElem?_cons_zero] at q0 q1 q2
  have f0 := hzb.frozen 0
  have f1 := hzb.frozen 1
  have f2 := hzb.frozen 2
  have hzl := hzb.lt
  go_wp2_with fail
  have HB := ((hzb.set_ 0 (.int .i64 (resJ false l).k)).set_ 1 (.int .i64 (resJ false l).n)).set_ 2 (.string (resJ false l).s)
  have k0 := HB.cell 0
  have k1 := HB.cell 1
  have k2 := HB.cell 2
  simp at k0 k1 k2
  exact bodyPost_ret (v := .agg #[.int .i64 (resJ false l).k, .int .i64 (resJ false l).n, .string (resJ false l).s]) (by simp [results, Tryz.results58, go_sem, k0, k1, k2]) rfl ⟨by first | (rw [HV.out]; done) | (rw [HV.out]; rfl), ((H2.out.1.setCell (p := ⟨w.heap.size + 1, 0, none⟩) (by simp <;> omega) _).setCell (p := ⟨w.heap.size + 1, 1, none⟩) (by simp <;> omega) _).setCell (p := ⟨w.heap.size + 1, 2, none⟩) (by simp <;> omega) _⟩
set_option maxHeartbeats 8000000 in
set_option maxRecDepth 100000 in
theorem val20 (n m kind : Int) (lit : V) (A' R : Option Addr) (an rn c' d : Nat) (A : Option Addr) (c : Nat) (l : List V) (w : World) (hr : VReads w w.heap.size A l) (_hm : manyB 20 l.length = true) (_hok : ∀ v ∈ l, v.ok = true) (hn : l.length ≤ 1000000) (ht : chkT l = 0) :
    Calls Tryz.prog 58 #[.agg #[.int .i64 20, .int .i64 n, .int .i64 m, .int .i64 kind, .int .i64 lit.k, .int .i64 lit.n, .string lit.s, .slice A' an c', .slice R rn d], .slice A l.length c] w fun e w' => e = .returned (.agg #[.int .i64 (opV 20 l).k, .int .i64 (opV 20 l).n, .string (opV 20 l).s]) ∧ Below w.heap.size w w' := by
  have H0 : Hid (Below w.heap.size w ((w.alloc (.cells #[.int .i64 20, .int .i64 n, .int .i64 m, .int .i64 kind, .int .i64 lit.k, .int .i64 lit.n, .string lit.s, .slice A' an c', .slice R rn d] 29)).alloc (.cells #[.int .i64 0, .int .i64 0, .string ⟨#[]⟩] 25)) ∧ Blk ((w.alloc (.cells #[.int .i64 20, .int .i64 n, .int .i64 m, .int .i64 kind, .int .i64 lit.k, .int .i64 lit.n, .string lit.s, .slice A' an c', .slice R rn d] 29)).alloc (.cells #[.int .i64 0, .int .i64 0, .string ⟨#[]⟩] 25)) w.heap.size 29 #[.int .i64 20, .int .i64 n, .int .i64 m, .int .i64 kind, .int .i64 lit.k, .int .i64 lit.n, .string lit.s, .slice A' an c', .slice R rn d] ∧ Blk ((w.alloc (.cells #[.int .i64 20, .int .i64 n, .int .i64 m, .int .i64 kind, .int .i64 lit.k, .int .i64 lit.n, .string lit.s, .slice A' an c', .slice R rn d] 29)).alloc (.cells #[.int .i64 0, .int .i64 0, .string ⟨#[]⟩] 25)) (w.heap.size + 1) 25 #[.int .i64 0, .int .i64 0, .string ⟨#[]⟩]) := Lib.hid ⟨al (al (Below.refl _ _) _) _, (Blk.new w _ _).alloc _, Blk.new' (by simp)⟩
  have HX := Lib.hid (rOr_res A c l ((w.alloc (.cells #[.int .i64 20, .int .i64 n, .int .i64 m, .int .i64 kind, .int .i64 lit.k, .int .i64 lit.n, .string lit.s, .slice A' an c', .slice R rn d] 29)).alloc (.cells #[.int .i64 0, .int .i64 0, .string ⟨#[]⟩] 25)) (hr.below (al (al (Below.refl _ _) _) _) (by simp <;> omega)) (by unfold maxLen; omega) ht)
  have HV : Hid (opV 20 l = resJ true l) := Lib.hid (by unfold resJ; rw [if_pos ht]; rfl)
  clear hr ht _hok _hm
  go_enter Tryz.func58, Tryz.ntmps58
  go_wp2_with fail
  refine HX.out.mono ?_
  rintro u w4 ⟨rfl, hb4⟩
  have H2 := Lib.hid (And.intro (thn H0.out.1 hb4) (And.intro (H0.out.2.1.below hb4 H0.out.2.1.lt) (H0.out.2.2.below hb4 H0.out.2.2.lt)))
  clear hb4
  have hzb := H2.out.2.2
  have q0 := hzb.cell 0
  have q1 := hzb.cell 1
  have q2 := hzb.cell 2
  simp only [List.getElem?_toArray, List.getElem?_cons_succ, List.getElem?_cons_zero] at q0 q1 q2
  have f0 := hzb.frozen 0
  have f1 := hzb.frozen 1
  have f2 := hzb.frozen 2
  have hzl := hzb.lt
  go_wp2_with fail
  have HB := ((hzb.set_ 0 (.int .i64 (resJ true l).k)).set_ 1 (.int .i64 (resJ true l).n)).set_ 2 (.string (resJ true l).s)
  have k0 := HB.cell 0
  have k1 := HB.cell 1
  have k2 := HB.cell 2
  simp at k0 k1 k2
  exact bodyPost_ret (v := .agg #[.int .i64 (resJ true l).k, .int .i64 (resJ true l).n, .string (resJ true l).s]) (by simp [results, Tryz.results58, go_sem, k0, k1, k2]) rfl ⟨by first | (rw [HV.out]; done) | (rw [HV.out]; rfl), ((H2.out.1.setCell (p := ⟨w.heap.size + 1, 0, none⟩) (by simp <;> omega) _).setCell (p := ⟨w.heap.size + 1, 1, none⟩) (by simp <;> omega) _).setCell (p := ⟨w.heap.size + 1, 2, none⟩) (by simp <;> omega) _⟩
set_option maxHeartbeats 8000000 in
set_option maxRecDepth 100000 in
theorem val21 (n m kind : Int) (lit : V) (A' R : Option Addr) (an rn c' d : Nat) (A : Option Addr) (c : Nat) (l : List V) (w : World) (hr : VReads w w.heap.size A l) (hm : manyB 21 l.length = true) (hok : ∀ v ∈ l, v.ok = true) (hn : l.length ≤ 1000000) (ht : chkT [l.headD zV] = 0) :
    Calls Tryz.prog 58 #[.agg #[.int .i64 21, .int .i64 n, .int .i64 m, .int .i64 kind, .int .i64 lit.k, .int .i64 lit.n, .string lit.s, .slice A' an c', .slice R rn d], .slice A l.length c] w fun e w' => e = .returned (.agg #[.int .i64 (opV 21 l).k, .int .i64 (opV 21 l).n, .string (opV 21 l).s]) ∧ Below w.heap.size w w' := by
  have h0 : 0 < l.length := (many_le hm).2
  have h0i : (0 : Int) < (l.length : Int) := by omega
  have hhd := headD_at h0
  obtain ⟨b, o, rfl, hblk, c0, c1, c2⟩ := hr.at_ h0
  simp only [Nat.zero_mul, Nat.add_zero] at c0 c1 c2
  have hxok := hok _ (List.getElem_mem h0)
  have H0 : Hid (Below w.heap.size w ((w.alloc (.cells #[.int .i64 21, .int .i64 n, .int .i64 m, .int .i64 kind, .int .i64 lit.k, .int .i64 lit.n, .string lit.s, .slice A' an c', .slice R rn d] 29)).alloc (.cells #[.int .i64 0, .int .i64 0, .string ⟨#[]⟩] 25)) ∧ Blk ((w.alloc (.cells #[.int .i64 21, .int .i64 n, .int .i64 m, .int .i64 kind, .int .i64 lit.k, .int .i64 lit.n, .string lit.s, .slice A' an c', .slice R rn d] 29)).alloc (.cells #[.int .i64 0, .int .i64 0, .string ⟨#[]⟩] 25)) w.heap.size 29 #[.int .i64 21, .int .i64 n, .int .i64 m, .int .i64 kind, .int .i64 lit.k, .int .i64 lit.n, .string lit.s, .slice A' an c', .slice R rn d] ∧ Blk ((w.alloc (.cells #[.int .i64 21, .int .i64 n, .int .i64 m, .int .i64 kind, .int .i64 lit.k, .int .i64 lit.n, .string lit.s, .slice A' an c', .slice R rn d] 29)).alloc (.cells #[.int .i64 0, .int .i64 0, .string ⟨#[]⟩] 25)) (w.heap.size + 1) 25 #[.int .i64 0, .int .i64 0, .string ⟨#[]⟩]) := Lib.hid ⟨al (al (Below.refl _ _) _) _, (Blk.new w _ _).alloc _, Blk.new' (by simp)⟩
  have HV : Hid (opV 21 l = resN l[0]) := Lib.hid (by unfold resN; rw [← hhd, if_pos ht]; rfl)
  rw [hhd] at ht
  clear hr hok hm hhd hxok
  generalize l[0] = x at *
  clear h0
  have HX := Lib.hid (rNot_any x.k x.n x.s ((w.alloc (.cells #[.int .i64 21, .int .i64 n, .int .i64 m, .int .i64 kind, .int .i64 lit.k, .int .i64 lit.n, .string lit.s, .slice A' an c', .slice R rn d] 29)).alloc (.cells #[.int .i64 0, .int .i64 0, .string ⟨#[]⟩] 25)) ht)
  clear ht
  go_enter Tryz.func58, Tryz.ntmps58
  go_wp2_with fail
  refine HX.out.mono ?_
  rintro u w4 ⟨rfl, hb4⟩
  have H2 := Lib.hid (And.intro (thn H0.out.1 hb4) (And.intro (H0.out.2.1.below hb4 H0.out.2.1.lt) (H0.out.2.2.below hb4 H0.out.2.2.lt)))
  clear hb4
  have hzb := H2.out.2.2
  have q0 := hzb.cell 0
  have q1 := hzb.cell 1
  have q2 := hzb.cell 2
  simp only [List.getElem?_toArray, List.getElem?_cons_succ, List.getElem?_cons_zero] at q0 q1 q2
  have f0 := hzb.frozen 0
  have f1 := hzb.frozen 1
  have f2 := hzb.frozen 2
  have hzl := hzb.lt
  go_wp2_with fail
  have HB := ((hzb.set_ 0 (.int .i64 (resN x).k)).set_ 1 (.int .i64 (resN x).n)).set_ 2 (.string (resN x).s)
  have k0 := HB.cell 0
  have k1 := HB.cell 1
  have k2 := HB.cell 2
  simp at k0 k1 k2
  exact bodyPost_ret (v := .agg #[.int .i64 (resN x).k, .int .i64 (resN x).n, .string (resN x).s]) (by simp [results, Tryz.results58, go_sem, k0, k1, k2]) rfl ⟨by first | (rw [HV.out]; done) | (rw [HV.out]; rfl), ((H2.out.1.setCell (p := ⟨w.heap.size + 1, 0, none⟩) (by simp <;> omega) _).setCell (p := ⟨w.heap.size + 1, 1, none⟩) (by simp <;> omega) _).setCell (p := ⟨w.heap.size + 1, 2, none⟩) (by simp <;> omega) _⟩
set_option maxHeartbeats 8000000 in
set_option maxRecDepth 100000 in
theorem val22 (n m kind : Int) (lit : V) (A' R : Option Addr) (an rn c' d : Nat) (A : Option Addr) (c : Nat) (l : List V) (w : World) (hr : VReads w w.heap.size A l) (hm : manyB 22 l.length = true) (hok : ∀ v ∈ l, v.ok = true) (hn : l.length ≤ 1000000) :
    Calls Tryz.prog 58 #[.agg #[.int .i64 22, .int .i64 n, .int .i64 m, .int .i64 kind, .int .i64 lit.k, .int .i64 lit.n, .string lit.s, .slice A' an c', .slice R rn d], .slice A l.length c] w fun e w' => e = .returned (.agg #[.int .i64 (opV 22 l).k, .int .i64 (opV 22 l).n, .string (opV 22 l).s]) ∧ Below w.heap.size w w' := by
  have h0 : 0 < l.length := (many_le hm).2
  have h0i : (0 : Int) < (l.length : Int) := by omega
  have hhd := headD_at h0
  obtain ⟨b, o, rfl, hblk, c0, c1, c2⟩ := hr.at_ h0
  simp only [Nat.zero_mul, Nat.add_zero] at c0 c1 c2
  have hxok := hok _ (List.getElem_mem h0)
  have H0 : Hid (Below w.heap.size w ((w.alloc (.cells #[.int .i64 22, .int .i64 n, .int .i64 m, .int .i64 kind, .int .i64 lit.k, .int .i64 lit.n, .string lit.s, .slice A' an c', .slice R rn d] 29)).alloc (.cells #[.int .i64 0, .int .i64 0, .string ⟨#[]⟩] 25)) ∧ Blk ((w.alloc (.cells #[.int .i64 22, .int .i64 n, .int .i64 m, .int .i64 kind, .int .i64 lit.k, .int .i64 lit.n, .string lit.s, .slice A' an c', .slice R rn d] 29)).alloc (.cells #[.int .i64 0, .int .i64 0, .string ⟨#[]⟩] 25)) w.heap.size 29 #[.int .i64 22, .int .i64 n, .int .i64 m, .int .i64 kind, .int .i64 lit.k, .int .i64 lit.n, .string lit.s, .slice A' an c', .slice R rn d] ∧ Blk ((w.alloc (.cells #[.int .i64 22, .int .i64 n, .int .i64 m, .int .i64 kind, .int .i64 lit.k, .int .i64 lit.n, .string lit.s, .slice A' an c', .slice R rn d] 29)).alloc (.cells #[.int .i64 0, .int .i64 0, .string ⟨#[]⟩] 25)) (w.heap.size + 1) 25 #[.int .i64 0, .int .i64 0, .string ⟨#[]⟩]) := Lib.hid ⟨al (al (Below.refl _ _) _) _, (Blk.new w _ _).alloc _, Blk.new' (by simp)⟩
  have HV : Hid (opV 22 l = truV (l[0].k == 0)) := Lib.hid (by rw [← hhd]; rfl)
  clear hr hok hm hhd hxok
  generalize l[0] = x at *
  clear h0
  go_enter Tryz.func58, Tryz.ntmps58
  go_wp2_with fail
  refine (rBool_any (x.k == 0) _).mono ?_
  rintro u w4 ⟨rfl, hb4⟩
  have H2 := Lib.hid (And.intro (thn H0.out.1 hb4) (And.intro (H0.out.2.1.below hb4 H0.out.2.1.lt) (H0.out.2.2.below hb4 H0.out.2.2.lt)))
  clear hb4
  have hzb := H2.out.2.2
  have q0 := hzb.cell 0
  have q1 := hzb.cell 1
  have q2 := hzb.cell 2
  simp only [List.getElem?_toArray, List.getElem?_cons_succ, List.getElem?_cons_zero] at q0 q1 q2
  have f0 := hzb.frozen 0
  have f1 := hzb.frozen 1
  have f2 := hzb.frozen 2
  have hzl := hzb.lt
  go_wp2_with fail
  have HB := ((hzb.set_ 0 (.int .i64 2)).set_ 1 (.int .i64 (b2i (x.k == 0)))).set_ 2 (.string ⟨#[]⟩)
  have k0 := HB.cell 0
  have k1 := HB.cell 1
  have k2 := HB.cell 2
  simp at k0 k1 k2
  exact bodyPost_ret (v := .agg #[.int .i64 2, .int .i64 (b2i (x.k == 0)), .string ⟨#[]⟩]) (by simp [results, Tryz.results58, go_sem, k0, k1, k2]) rfl ⟨by first | (rw [HV.out]; done) | (rw [HV.out]; rfl), ((H2.out.1.setCell (p := ⟨w.heap.size + 1, 0, none⟩) (by simp <;> omega) _).setCell (p := ⟨w.heap.size + 1, 1, none⟩) (by simp <;> omega) _).setCell (p := ⟨w.heap.size + 1, 2, none⟩) (by simp <;> omega) _⟩
set_option maxHeartbeats 8000000 in
set_option maxRecDepth 100000 in
theorem val23 (n m kind : Int) (lit : V) (A' R : Option Addr) (an rn c' d : Nat) (A : Option Addr) (c : Nat) (l : List V) (w : World) (hr : VReads w w.heap.size A l) (hm : manyB 23 l.length = true) (hok : ∀ v ∈ l, v.ok = true) (hn : l.length ≤ 1000000) :
    Calls Tryz.prog 58 #[.agg #[.int .i64 23, .int .i64 n, .int .i64 m, .int .i64 kind, .int .i64 lit.k, .int .i64 lit.n, .string lit.s, .slice A' an c', .slice R rn d], .slice A l.length c] w fun e w' => e = .returned (.agg #[.int .i64 (opV 23 l).k, .int .i64 (opV 23 l).n, .string (opV 23 l).s]) ∧ Below w.heap.size w w' := by
  have h0 : 0 < l.length := (many_le hm).2
  have h0i : (0 : Int) < (l.length : Int) := by omega
  have hhd := headD_at h0
  obtain ⟨b, o, rfl, hblk, c0, c1, c2⟩ := hr.at_ h0
  simp only [Nat.zero_mul, Nat.add_zero] at c0 c1 c2
  have hxok := hok _ (List.getElem_mem h0)
  have H0 : Hid (Below w.heap.size w ((w.alloc (.cells #[.int .i64 23, .int .i64 n, .int .i64 m, .int .i64 kind, .int .i64 lit.k, .int .i64 lit.n, .string lit.s, .slice A' an c', .slice R rn d] 29)).alloc (.cells #[.int .i64 0, .int .i64 0, .string ⟨#[]⟩] 25)) ∧ Blk ((w.alloc (.cells #[.int .i64 23, .int .i64 n, .int .i64 m, .int .i64 kind, .int .i64 lit.k, .int .i64 lit.n, .string lit.s, .slice A' an c', .slice R rn d] 29)).alloc (.cells #[.int .i64 0, .int .i64 0, .string ⟨#[]⟩] 25)) w.heap.size 29 #[.int .i64 23, .int .i64 n, .int .i64 m, .int .i64 kind, .int .i64 lit.k, .int .i64 lit.n, .string lit.s, .slice A' an c', .slice R rn d] ∧ Blk ((w.alloc (.cells #[.int .i64 23, .int .i64 n, .int .i64 m, .int .i64 kind, .int .i64 lit.k, .int .i64 lit.n, .string lit.s, .slice A' an c', .slice R rn d] 29)).alloc (.cells #[.int .i64 0, .int .i64 0, .string ⟨#[]⟩] 25)) (w.heap.size + 1) 25 #[.int .i64 0, .int .i64 0, .string ⟨#[]⟩]) := Lib.hid ⟨al (al (Below.refl _ _) _) _, (Blk.new w _ _).alloc _, Blk.new' (by simp)⟩
  have HV : Hid (opV 23 l = truV (l[0].k == 2 && l[0].n == 1)) := Lib.hid (by rw [← isE_ok hxok, ← hhd]; rfl)
  clear hr hok hm hhd hxok
  generalize l[0] = x at *
  clear h0
  have HX := Lib.hid (rTrue_any x.k x.n x.s ((w.alloc (.cells #[.int .i64 23, .int .i64 n, .int .i64 m, .int .i64 kind, .int .i64 lit.k, .int .i64 lit.n, .string lit.s, .slice A' an c', .slice R rn d] 29)).alloc (.cells #[.int .i64 0, .int .i64 0, .string ⟨#[]⟩] 25)))
  generalize (x.k == 2 && x.n == 1) = t at *
  go_enter Tryz.func58, Tryz.ntmps58
  go_wp2_with fail
  refine HX.out.mono ?_
  rintro u w3 ⟨rfl, hb3⟩
  have H1 := Lib.hid (And.intro (thn H0.out.1 hb3) (And.intro (H0.out.2.1.below hb3 H0.out.2.1.lt) (H0.out.2.2.below hb3 H0.out.2.2.lt)))
  clear hb3
  go_wp2_with fail
  refine (rBool_any t _).mono ?_
  rintro u w4 ⟨rfl, hb4⟩
  have H2 := Lib.hid (And.intro (thn H1.out.1 hb4) (And.intro (H1.out.2.1.below hb4 H1.out.2.1.lt) (H1.out.2.2.below hb4 H1.out.2.2.lt)))
  clear hb4
  have hzb := H2.out.2.2
  have q0 := hzb.cell 0
  have q1 := hzb.cell 1
  have q2 := hzb.cell 2
  simp only [List.getElem?_toArray, List.getElem?_cons_succ, List.getElem?_cons_zero] at q0 q1 q2
  have f0 := hzb.frozen 0
  have f1 := hzb.frozen 1
  have f2 := hzb.frozen 2
  have hzl := hzb.lt
  go_wp2_with fail
  have HB := ((hzb.set_ 0 (.int .i64 2)).set_ 1 (.int .i64 (b2i t))).set_ 2 (.string ⟨#[]⟩)
  have k0 := HB.cell 0
  have k1 := HB.cell 1
  have k2 := HB.cell 2
  simp at k0 k1 k2
  exact bodyPost_ret (v := .agg #[.int .i64 2, .int .i64 (b2i t), .string ⟨#[]⟩]) (by simp [results, Tryz.results58, go_sem, k0, k1, k2]) rfl ⟨by first | (rw [HV.out]; done) | (rw [HV.out]; rfl), ((H2.out.1.setCell (p := ⟨w.heap.size + 1, 0, none⟩) (by simp <;> omega) _).setCell (p := ⟨w.heap.size + 1, 1, none⟩) (by simp <;> omega) _).setCell (p := ⟨w.heap.size + 1, 2, none⟩) (by simp <;> omega) _⟩
set_option maxHeartbeats 8000000 in
set_option maxRecDepth 100000 in
theorem val18 (n m kind : Int) (lit : V) (A' R : Option Addr) (an rn c' d : Nat) (A : Option Addr) (c : Nat) (l : List V) (w : World) (hr : VReads w w.heap.size A l) (hm : manyB 18 l.length = true) (hok : ∀ v ∈ l, v.ok = true) (hn : l.length ≤ 1000000) :
    Calls Tryz.prog 58 #[.agg #[.int .i64 18, .int .i64 n, .int .i64 m, .int .i64 kind, .int .i64 lit.k, .int .i64 lit.n, .string lit.s, .slice A' an c', .slice R rn d], .slice A l.length c] w fun e w' => e = .returned (.agg #[.int .i64 (opV 18 l).k, .int .i64 (opV 18 l).n, .string (opV 18 l).s]) ∧ Below w.heap.size w w' := by
  obtain ⟨x, y, rfl⟩ := two_of (many_two 18 _ hm (by decide))
  obtain ⟨b, o, rfl, hblk, c0, c1, c2⟩ := hr.at_ (i := 0) (by simp)
  obtain ⟨b', o', he, _, d0, d1, d2⟩ := hr.at_ (i := 1) (by simp)
  injection he with he
  injection he with he1 he2 _
  subst he1 he2
  simp only [Nat.zero_mul, Nat.one_mul, Nat.add_zero, List.getElem_cons_zero, List.getElem_cons_succ] at c0 c1 c2 d0 d1 d2
  have heq := @eqV
  have HV : Hid (opV 18 [x, y] = truV (veq x.k x.n x.s y.k y.n y.s)) := Lib.hid rfl
  clear hr hok hm
  have H0 : Hid (Below w.heap.size w ((w.alloc (.cells #[.int .i64 18, .int .i64 n, .int .i64 m, .int .i64 kind, .int .i64 lit.k, .int .i64 lit.n, .string lit.s, .slice A' an c', .slice R rn d] 29)).alloc (.cells #[.int .i64 0, .int .i64 0, .string ⟨#[]⟩] 25)) ∧ Blk ((w.alloc (.cells #[.int .i64 18, .int .i64 n, .int .i64 m, .int .i64 kind, .int .i64 lit.k, .int .i64 lit.n, .string lit.s, .slice A' an c', .slice R rn d] 29)).alloc (.cells #[.int .i64 0, .int .i64 0, .string ⟨#[]⟩] 25)) w.heap.size 29 #[.int .i64 18, .int .i64 n, .int .i64 m, .int .i64 kind, .int .i64 lit.k, .int .i64 lit.n, .string lit.s, .slice A' an c', .slice R rn d] ∧ Blk ((w.alloc (.cells #[.int .i64 18, .int .i64 n, .int .i64 m, .int .i64 kind, .int .i64 lit.k, .int .i64 lit.n, .string lit.s, .slice A' an c', .slice R rn d] 29)).alloc (.cells #[.int .i64 0, .int .i64 0, .string ⟨#[]⟩] 25)) (w.heap.size + 1) 25 #[.int .i64 0, .int .i64 0, .string ⟨#[]⟩]) := Lib.hid ⟨al (al (Below.refl _ _) _) _, (Blk.new w _ _).alloc _, Blk.new' (by simp)⟩
  go_enter Tryz.func58, Tryz.ntmps58
  have X0 := (H0.out.1.cell (p := ⟨b, o, none⟩) hblk).trans c0
  have X1 := (H0.out.1.cell (p := ⟨b, o + 1, none⟩) hblk).trans c1
  have X2 := (H0.out.1.cell (p := ⟨b, o + 2, none⟩) hblk).trans c2
  have Y0 := (H0.out.1.cell (p := ⟨b, o + 3, none⟩) hblk).trans d0
  have Y1 := (H0.out.1.cell (p := ⟨b, o + 3 + 1, none⟩) hblk).trans d1
  have Y2 := (H0.out.1.cell (p := ⟨b, o + 3 + 2, none⟩) hblk).trans d2
  clear c0 c1 c2 d0 d1 d2
  go_upto_region 5 with fail
  change Code.wp _ _ _ _ ((w.alloc (.cells #[.int .i64 18, .int .i64 n, .int .i64 m, .int .i64 kind, .int .i64 lit.k, .int .i64 lit.n, .string lit.s, .slice A' an c', .slice R rn d] 29)).alloc (.cells #[.int .i64 0, .int .i64 0, .string ⟨#[]⟩] 25))
  generalize ((w.alloc (.cells #[.int .i64 18, .int .i64 n, .int .i64 m, .int .i64 kind, .int .i64 lit.k, .int .i64 lit.n, .string lit.s, .slice A' an c', .slice R rn d] 29)).alloc (.cells #[.int .i64 0, .int .i64 0, .string ⟨#[]⟩] 25)) = w0 at *
  go_still_tail 7, (by kernel_rfl)
  change wpList _ _ _ _ _ w0.drew
  have H1 : Hid (Below w.heap.size w w0.drew ∧ Blk w0.drew w.heap.size 29 #[.int .i64 18, .int .i64 n, .int .i64 m, .int .i64 kind, .int .i64 lit.k, .int .i64 lit.n, .string lit.s, .slice A' an c', .slice R rn d] ∧ Blk w0.drew (w.heap.size + 1) 25 #[.int .i64 0, .int .i64 0, .string ⟨#[]⟩]) := Lib.hid ⟨⟨H0.out.1.os, H0.out.1.tape, H0.out.1.output, H0.out.1.size, H0.out.1.block⟩, H0.out.2.1, H0.out.2.2⟩
  clear X0 X1 X2 Y0 Y1 Y2 H0
  generalize w0.drew = w1 at *
  go_wp2_with fail
  refine (rBool_any (veq x.k x.n x.s y.k y.n y.s) _).mono ?_
  rintro u w4 ⟨rfl, hb4⟩
  have H2 := Lib.hid (And.intro (thn H1.out.1 hb4) (And.intro (H1.out.2.1.below hb4 H1.out.2.1.lt) (H1.out.2.2.below hb4 H1.out.2.2.lt)))
  clear hb4
  have hzb := H2.out.2.2
  have q0 := hzb.cell 0
  have q1 := hzb.cell 1
  have q2 := hzb.cell 2
  simp only [List.getElem?_toArray, List.getElem?_cons_succ, List.getElem?_cons_zero] at q0 q1 q2
  have f0 := hzb.frozen 0
  have f1 := hzb.frozen 1
  have f2 := hzb.frozen 2
  have hzl := hzb.lt
  go_wp2_with fail
  have HB := ((hzb.set_ 0 (.int .i64 2)).set_ 1 (.int .i64 (b2i (veq x.k x.n x.s y.k y.n y.s)))).set_ 2 (.string ⟨#[]⟩)
  have k0 := HB.cell 0
  have k1 := HB.cell 1
  have k2 := HB.cell 2
  simp at k0 k1 k2
  exact bodyPost_ret (v := .agg #[.int .i64 2, .int .i64 (b2i (veq x.k x.n x.s y.k y.n y.s)), .string ⟨#[]⟩]) (by simp [results, Tryz.results58, go_sem, k0, k1, k2]) rfl ⟨by first | (rw [HV.out]; done) | (rw [HV.out]; rfl), ((H2.out.1.setCell (p := ⟨w.heap.size + 1, 0, none⟩) (by simp <;> omega) _).setCell (p := ⟨w.heap.size + 1, 1, none⟩) (by simp <;> omega) _).setCell (p := ⟨w.heap.size + 1, 2, none⟩) (by simp <;> omega) _⟩
end Go.Proofs.YtcbcncaoabablaaGreatDoor
