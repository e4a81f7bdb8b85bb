/-
  CONTRACTS of the reference's all and cases.
-/
import Derived.Test.YtcbcncaoabablaaGreatDoorKdM
import Derived.Test.YtcbcncaoabablaaGreatDoorCcS
import Derived.BigQuiet
namespace Go.Proofs.YtcbcncaoabablaaGreatDoor
open Go.RowKit Go.Deep

theorem allK_take {l : List Co} {k : Int} {i : Nat} (h : i < l.length) (ht : allK (l.take i) k = true) : allK (l.take (i + 1)) k = (l[i].1 == k) := by
  unfold allK at ht ⊢
  rw [List.take_succ_eq_append_getElem h, List.all_append, ht]
  simp
theorem allK_stop {l : List Co} {k : Int} {i : Nat} (h : i < l.length) (hk : (l[i].1 == k) = false) : allK l k = false := by
  unfold allK
  rw [← Bool.not_eq_true, List.all_eq_true]
  intro ha
  have := ha l[i] (List.getElem_mem h)
  rw [hk] at this
  cases this
set_option maxHeartbeats 1000000 in
theorem all_any (k : Int) (A : Option Addr) (c : Nat) (cs : List Co) (w : World) (hr : KReads w w.heap.size A cs) (hn : cs.length ≤ 1000000) :
    Calls Tryz.prog 80 #[.slice A cs.length c, .int .i64 k] w fun x w' => x = .returned (.bool (allK cs k)) ∧ w' = w := by
  have HR := Lib.hid hr
  clear hr
  go_enter Tryz.func80, Tryz.ntmps80
  go_wp2_with fail
  go_loopw [5] (fun iv wr => ∃ i : Nat, i ≤ cs.length ∧ iv = .int .i64 i ∧ wr = w ∧ Hid (allK (cs.take i) k = true)) (fun iv _ => cs.length - (intOf iv).toNat)
  case atStart => exact ⟨0, Nat.zero_le _, rfl, rfl, Lib.hid (by simp [allK])⟩
  case round =>
    obtain ⟨i, hi, rfl, rfl, HI⟩ := hrel
    by_cases hlt : i < cs.length
    · have hlti : (i : Int) < (cs.length : Int) := by omega
      have hi0 : (0 : Int) ≤ (i : Int) := by omega
      obtain ⟨b, o, rfl, hb, c0, c1⟩ := HR.out.at_ hlt
      have HT := Lib.hid (allK_take hlt HI.out)
      have HS := Lib.hid (fun h => allK_stop (k := k) hlt h)
      generalize cs[i] = ci at *
      by_cases hk : ci.1 = k
      · have e1 : (ci.1 == k) = true := beq_iff_eq.2 hk
        have HN : Hid (allK (cs.take (i + 1)) k = true) := Lib.hid (by rw [HT.out, e1])
        clear HT HS hk c1
        go_wp2_with fail
        go_roundw
        case rel => exact ⟨i + 1, by omega, by go_num, by first | rfl | trivial, HN⟩
        case measure => simp [intOf]; omega
      · have e1 : (ci.1 == k) = false := beq_eq_false_iff_ne.2 hk
        have HN : Hid (allK cs k = false) := Lib.hid (HS.out e1)
        clear HT HS c1
        go_wp2_with fail
        go_ret
        exact ⟨by rw [HN.out]; rfl, rfl⟩
    · have HN : Hid (allK cs k = true) := Lib.hid (by have := HI.out; rwa [List.take_of_length_le (by omega)] at this)
      have hlf : decide ((i : Int) < (cs.length : Int)) = false := decide_eq_false (by omega)
      go_wp2_with fail
      go_ret
      exact ⟨by rw [HN.out]; rfl, rfl⟩
set_option maxHeartbeats 4000000 in
set_option maxRecDepth 100000 in
theorem cases_any (A : Option Addr) (c : Nat) (cs : List Co) (k litk : Int) (w : World) (hr : KReads w w.heap.size A cs) (hn : cs.length ≤ 1000000) (ho : cs.length % 2 = 1) :
    Calls Tryz.prog 81 #[.slice A cs.length c] w fun x w' => x = .returned (.tuple #[.agg #[.int .i64 (combC 24 k litk cs).1.1, .bool (combC 24 k litk cs).1.2], .bool (combC 24 k litk cs).2]) ∧ Below w.heap.size w w' := by
  have hl0 : cs.length - 1 < cs.length := by omega
  obtain ⟨q, hq⟩ : ∃ q : Nat, q = cs.length - 1 := ⟨_, rfl⟩
  have hqi : (cs.length : Int) - 1 = (q : Int) := by omega
  have hqw : IntKind.i64.wrap ((cs.length : Int) - 1) = (q : Int) := by rw [hqi]; exact IntWalk.i64_in _ (by omega)
  have hq0 : (0 : Int) ≤ (q : Int) := by omega
  have hql : q < cs.length := by omega
  have hqli : (q : Int) < (cs.length : Int) := by omega
  obtain ⟨b, o, rfl, hb, l0, l1⟩ := hr.at_ hql
  have HLast : Hid (cs[cs.length - 1]? = some cs[q]) := Lib.hid (by rw [← hq]; exact List.getElem?_eq_getElem hql)
  have HSt := Lib.hid (CaseInv.start cs cs[q].1 cs[q].2)
  generalize cs[q] = last at *
  have HR := Lib.hid (And.intro hr (And.intro ho hq))
  have HQ : Hid (cs.length = q + 1) := Lib.hid (by omega)
  clear hr ho hq hl0
  go_enter Tryz.func81, Tryz.ntmps81
  go_wp2_with fail
  have HB0 : Hid (Below w.heap.size w ((w.alloc (.cells #[.int .i64 0, .bool false] 50)).alloc (.cells #[.int .i64 last.1, .bool last.2] 50)) ∧ Blk ((w.alloc (.cells #[.int .i64 0, .bool false] 50)).alloc (.cells #[.int .i64 last.1, .bool last.2] 50)) w.heap.size 50 #[.int .i64 0, .bool false] ∧ Blk ((w.alloc (.cells #[.int .i64 0, .bool false] 50)).alloc (.cells #[.int .i64 last.1, .bool last.2] 50)) (w.heap.size + 1) 50 #[.int .i64 last.1, .bool last.2]) := Lib.hid ⟨al (al (Below.refl _ _) _) _, (Blk.new w _ _).alloc _, Blk.new' (by simp)⟩
  go_loopw [6] (fun iv wr => ∃ (i : Nat) (n : Bool), i ≤ q ∧ iv = .int .i64 i ∧ Hid (Below w.heap.size w wr ∧ Blk wr w.heap.size 50 #[.int .i64 0, .bool false] ∧ Blk wr (w.heap.size + 1) 50 #[.int .i64 last.1, .bool n]) ∧ Hid (CaseInv cs last.1 last.2 i n)) (fun iv _ => q - (intOf iv).toNat)
  case atStart => exact ⟨0, last.2, Nat.zero_le _, rfl, HB0, HSt⟩
  case round =>
    obtain ⟨i, n, hi, rfl, HW, HI⟩ := hrel
    have hz := HW.out.2.1
    have hy := HW.out.2.2
    have z0 := hz.cell 0
    have z1 := hz.cell 1
    have y0 := hy.cell 0
    have y1 := hy.cell 1
    simp only [List.getElem?_toArray, List.getElem?_cons_succ, List.getElem?_cons_zero] at z0 z1 y0 y1
    have fz0 := hz.frozen 0
    have fz1 := hz.frozen 1
    have fy1 := hy.frozen 1
    have hzl := hz.lt
    have hyl := hy.lt
    clear hz hy
    by_cases hlt : i < q
    · have hlti : (i : Int) < (q : Int) := by omega
      have hi0 : (0 : Int) ≤ (i : Int) := by omega
      have hil : i < cs.length := by omega
      have hili : (i : Int) < (cs.length : Int) := by omega
      obtain ⟨b', o', he, hb', c0, c1⟩ := (HR.out.1.below HW.out.1 HW.out.1.size).at_ hil
      injection he with he
      injection he with he1 he2 _
      subst he1 he2
      have HX := Lib.hid (List.getElem?_eq_getElem hil)
      generalize cs[i] = ci at *
      have hp : i % 2 = 0 ∨ i % 2 = 1 := by omega
      rcases hp with hp | hp
      · have p0 : ((i : Int) % 2 == 0) = true := beq_iff_eq.2 (by omega)
        have p1 : ((i : Int) % 2 == 1) = false := beq_eq_false_iff_ne.2 (by omega)
        have p2 : (i : Int) % 2 = 0 := by omega
        have t0 : ((i : Int).tmod 2 == 0) = true := by rw [Int.tmod_eq_emod_of_nonneg hi0]; exact p0
        have t1 : ((i : Int).tmod 2 == 1) = false := by rw [Int.tmod_eq_emod_of_nonneg hi0]; exact p1
        by_cases hk : ci.1 = 2
        · have e1 : (ci.1 == 2) = true := beq_iff_eq.2 hk
          have e2 : (ci.1 != 2) = false := by rw [bne, e1]; rfl
          have HN := Lib.hid (HI.out.even_step hp HX.out hk)
          clear hp hk
          go_upto_region 6 with fail
          go_quiet (fail)
          replace HW : Hid (Below w.heap.size w (wr.drewN nq) ∧ Blk (wr.drewN nq) w.heap.size 50 #[.int .i64 0, .bool false] ∧ Blk (wr.drewN nq) (w.heap.size + 1) 50 #[.int .i64 last.1, .bool n]) := Lib.hid ⟨below_drewN HW.out.1 nq, HW.out.2.1.drewN nq, HW.out.2.2.drewN nq⟩
          have hcz1 : (wr.drewN nq).cell? ⟨b, o + i * 2 + 1, none⟩ = some (.bool ci.2) := c1
          generalize wr.drewN nq = wq at *
          have z0 := HW.out.2.1.cell 0
          have z1 := HW.out.2.1.cell 1
          have y0 := HW.out.2.2.cell 0
          have y1 := HW.out.2.2.cell 1
          simp only [List.getElem?_toArray, List.getElem?_cons_succ, List.getElem?_cons_zero] at z0 z1 y0 y1
          have fz0 := HW.out.2.1.frozen 0
          have fz1 := HW.out.2.1.frozen 1
          have fy1 := HW.out.2.2.frozen 1
          have hzl := HW.out.2.1.lt
          have hyl := HW.out.2.2.lt
          go_wp2_with fail
          exact ⟨⟨i + 1, n, by omega, by go_num, HW, HN⟩, by simp [intOf]; omega⟩
        · have e1 : (ci.1 == 2) = false := beq_eq_false_iff_ne.2 hk
          have e2 : (ci.1 != 2) = true := by rw [bne, e1]; rfl
          have HN := Lib.hid (case_even (by have := HQ.out; omega) hp HX.out hk k litk)
          clear hp hk
          go_upto_region 6 with fail
          go_quiet (fail)
          replace HW : Hid (Below w.heap.size w (wr.drewN nq) ∧ Blk (wr.drewN nq) w.heap.size 50 #[.int .i64 0, .bool false] ∧ Blk (wr.drewN nq) (w.heap.size + 1) 50 #[.int .i64 last.1, .bool n]) := Lib.hid ⟨below_drewN HW.out.1 nq, HW.out.2.1.drewN nq, HW.out.2.2.drewN nq⟩
          have hcz1 : (wr.drewN nq).cell? ⟨b, o + i * 2 + 1, none⟩ = some (.bool ci.2) := c1
          generalize wr.drewN nq = wq at *
          have z0 := HW.out.2.1.cell 0
          have z1 := HW.out.2.1.cell 1
          have y0 := HW.out.2.2.cell 0
          have y1 := HW.out.2.2.cell 1
          simp only [List.getElem?_toArray, List.getElem?_cons_succ, List.getElem?_cons_zero] at z0 z1 y0 y1
          have fz0 := HW.out.2.1.frozen 0
          have fz1 := HW.out.2.1.frozen 1
          have fy1 := HW.out.2.2.frozen 1
          have hzl := HW.out.2.1.lt
          have hyl := HW.out.2.2.lt
          have HZ := Lib.hid (((HW.out.2.1.set_ 0 (.int .i64 0)).set_ 1 (.bool false)))
          have HZb : Hid (Below w.heap.size w ((wq.setCell ⟨w.heap.size, 0, none⟩ (.int .i64 0)).setCell ⟨w.heap.size, 1, none⟩ (.bool false))) := Lib.hid ((HW.out.1.setCell (p := ⟨w.heap.size, 0, none⟩) (Nat.le_refl _) _).setCell (p := ⟨w.heap.size, 1, none⟩) (Nat.le_refl _) _)
          go_wp2_with fail
          have k0 := HZ.out.cell 0
          have k1 := HZ.out.cell 1
          simp at k0 k1
          exact bodyPost_ret (v := .tuple #[.agg #[.int .i64 0, .bool false], .bool false]) (by simp [results, Tryz.results81, go_sem, k0, k1]) rfl ⟨by rw [HN.out], HZb.out⟩
      · have p0 : ((i : Int) % 2 == 0) = false := beq_eq_false_iff_ne.2 (by omega)
        have p1 : ((i : Int) % 2 == 1) = true := beq_iff_eq.2 (by omega)
        have p2 : (i : Int) % 2 = 1 := by omega
        have t0 : ((i : Int).tmod 2 == 0) = false := by rw [Int.tmod_eq_emod_of_nonneg hi0]; exact p0
        have t1 : ((i : Int).tmod 2 == 1) = true := by rw [Int.tmod_eq_emod_of_nonneg hi0]; exact p1
        by_cases hk : ci.1 = last.1
        · have e1 : (ci.1 == last.1) = true := beq_iff_eq.2 hk
          have e2 : (ci.1 != last.1) = false := by rw [bne, e1]; rfl
          have HN := Lib.hid (HI.out.odd_step hp HX.out hk)
          clear hp hk
          go_upto_region 6 with fail
          go_quiet (fail)
          replace HW : Hid (Below w.heap.size w (wr.drewN nq) ∧ Blk (wr.drewN nq) w.heap.size 50 #[.int .i64 0, .bool false] ∧ Blk (wr.drewN nq) (w.heap.size + 1) 50 #[.int .i64 last.1, .bool n]) := Lib.hid ⟨below_drewN HW.out.1 nq, HW.out.2.1.drewN nq, HW.out.2.2.drewN nq⟩
          have hcz1 : (wr.drewN nq).cell? ⟨b, o + i * 2 + 1, none⟩ = some (.bool ci.2) := c1
          generalize wr.drewN nq = wq at *
          have z0 := HW.out.2.1.cell 0
          have z1 := HW.out.2.1.cell 1
          have y0 := HW.out.2.2.cell 0
          have y1 := HW.out.2.2.cell 1
          simp only [List.getElem?_toArray, List.getElem?_cons_succ, List.getElem?_cons_zero] at z0 z1 y0 y1
          have fz0 := HW.out.2.1.frozen 0
          have fz1 := HW.out.2.1.frozen 1
          have fy1 := HW.out.2.2.frozen 1
          have hzl := HW.out.2.1.lt
          have hyl := HW.out.2.2.lt
          have HS : Hid (Below w.heap.size w (wq.setCell ⟨w.heap.size + 1, 1, none⟩ (.bool (n || ci.2))) ∧ Blk (wq.setCell ⟨w.heap.size + 1, 1, none⟩ (.bool (n || ci.2))) w.heap.size 50 #[.int .i64 0, .bool false] ∧ Blk (wq.setCell ⟨w.heap.size + 1, 1, none⟩ (.bool (n || ci.2))) (w.heap.size + 1) 50 #[.int .i64 last.1, .bool (n || ci.2)]) := Lib.hid ⟨HW.out.1.setCell (p := ⟨w.heap.size + 1, 1, none⟩) (by simp) _, HW.out.2.1.far (by simp) _, HW.out.2.2.set_ 1 _⟩
          cases n
          · simp only [Bool.false_or] at HS HN
            go_wp2_with fail
            exact ⟨⟨i + 1, ci.2, by omega, by go_num, HS, HN⟩, by simp [intOf]; omega⟩
          · simp only [Bool.true_or] at HS HN
            go_wp2_with fail
            exact ⟨⟨i + 1, true, by omega, by go_num, HS, HN⟩, by simp [intOf]; omega⟩
        · have e1 : (ci.1 == last.1) = false := beq_eq_false_iff_ne.2 hk
          have e2 : (ci.1 != last.1) = true := by rw [bne, e1]; rfl
          have HN := Lib.hid (case_odd (by have := HQ.out; omega) hp HR.out.2.1 HX.out HLast.out hk k litk)
          clear hp hk
          go_upto_region 6 with fail
          go_quiet (fail)
          replace HW : Hid (Below w.heap.size w (wr.drewN nq) ∧ Blk (wr.drewN nq) w.heap.size 50 #[.int .i64 0, .bool false] ∧ Blk (wr.drewN nq) (w.heap.size + 1) 50 #[.int .i64 last.1, .bool n]) := Lib.hid ⟨below_drewN HW.out.1 nq, HW.out.2.1.drewN nq, HW.out.2.2.drewN nq⟩
          have hcz1 : (wr.drewN nq).cell? ⟨b, o + i * 2 + 1, none⟩ = some (.bool ci.2) := c1
          generalize wr.drewN nq = wq at *
          have z0 := HW.out.2.1.cell 0
          have z1 := HW.out.2.1.cell 1
          have y0 := HW.out.2.2.cell 0
          have y1 := HW.out.2.2.cell 1
          simp only [List.getElem?_toArray, List.getElem?_cons_succ, List.getElem?_cons_zero] at z0 z1 y0 y1
          have fz0 := HW.out.2.1.frozen 0
          have fz1 := HW.out.2.1.frozen 1
          have fy1 := HW.out.2.2.frozen 1
          have hzl := HW.out.2.1.lt
          have hyl := HW.out.2.2.lt
          have HZ := Lib.hid (((HW.out.2.1.set_ 0 (.int .i64 0)).set_ 1 (.bool false)))
          have HZb : Hid (Below w.heap.size w ((wq.setCell ⟨w.heap.size, 0, none⟩ (.int .i64 0)).setCell ⟨w.heap.size, 1, none⟩ (.bool false))) := Lib.hid ((HW.out.1.setCell (p := ⟨w.heap.size, 0, none⟩) (Nat.le_refl _) _).setCell (p := ⟨w.heap.size, 1, none⟩) (Nat.le_refl _) _)
          go_wp2_with fail
          have k0 := HZ.out.cell 0
          have k1 := HZ.out.cell 1
          simp at k0 k1
          exact bodyPost_ret (v := .tuple #[.agg #[.int .i64 0, .bool false], .bool false]) (by simp [results, Tryz.results81, go_sem, k0, k1]) rfl ⟨by rw [HN.out], HZb.out⟩
    · have hie : i = q := by omega
      have HN : Hid (combC 24 k litk cs = ((last.1, n), true)) := Lib.hid (CaseInv.done (by rw [← HR.out.2.2, ← hie]; exact HI.out) HR.out.2.1 HLast.out k litk)
      have hlf : decide ((i : Int) < (q : Int)) = false := decide_eq_false (by omega)
      have HZ := Lib.hid (((HW.out.2.1.set_ 0 (.int .i64 last.1)).set_ 1 (.bool n)))
      have HZb : Hid (Below w.heap.size w ((wr.setCell ⟨w.heap.size, 0, none⟩ (.int .i64 last.1)).setCell ⟨w.heap.size, 1, none⟩ (.bool n))) := Lib.hid ((HW.out.1.setCell (p := ⟨w.heap.size, 0, none⟩) (Nat.le_refl _) _).setCell (p := ⟨w.heap.size, 1, none⟩) (Nat.le_refl _) _)
      clear hie
      go_wp2_with fail
      have k0 := HZ.out.cell 0
      have k1 := HZ.out.cell 1
      simp at k0 k1
      exact bodyPost_ret (v := .tuple #[.agg #[.int .i64 last.1, .bool n], .bool true]) (by simp [results, Tryz.results81, go_sem, k0, k1]) rfl ⟨by rw [HN.out], HZb.out⟩
end Go.Proofs.YtcbcncaoabablaaGreatDoor
