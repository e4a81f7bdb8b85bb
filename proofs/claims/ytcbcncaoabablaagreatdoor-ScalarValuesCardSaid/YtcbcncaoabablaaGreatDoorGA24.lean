/-
  RAl: CONTRACTS of the reference's all and cases.
  Cmb: CONTRACT of the reference's Combined.
  Rkd: CONTRACT of the reference's Kind.
-/
import Derived.Test.YtcbcncaoabablaaGreatDoorGA17
import Derived.Test.YtcbcncaoabablaaGreatDoorCcS
import Derived.BigQuiet
import Derived.Deep.RegionHeld3
namespace Go.Proofs.YtcbcncaoabablaaGreatDoor
open Go.RowKit Go.Deep

theorem allK_take {l : List Co} {k : Int} {i : Nat} (h : i < l.length) (ht : allK (l.take i) k = true) : allK (l.take (i + 1)) k = (l[i].1 == k) := by
  unfold allK at ht ⊢
  rw [List.take_succ_eq_append_getElem h, List.all_append, ht]
  simp
theorem allK_stop {l : List Co} {k : Int} {i : Nat} (h : i < l.length) (hk : (l[i].1 == k) = false) : allK l k = false := by
  unfold allK
  rw [← Bool.not_eq_true, List.all_eq_true]
  intro ha
  have := ha l[i] (List.getElem_mem h)
  rw [hk] at this
  cases this
set_option maxHeartbeats 1000000 in
theorem all_any (k : Int) (A : Option Addr) (c : Nat) (cs : List Co) (w : World) (hr : KReads w w.heap.size A cs) (hn : cs.length ≤ 1000000) :
    Calls Tryz.prog 80 #[.slice A cs.length c, .int .i64 k] w fun x w' => x = .returned (.bool (allK cs k)) ∧ w' = w := by
  have HR := Lib.hid hr
  clear hr
  go_enter Tryz.func80, Tryz.ntmps80
  go_wp2_with fail
  go_loopw [5] (fun iv wr => ∃ i : Nat, i ≤ cs.length ∧ iv = .int .i64 i ∧ wr = w ∧ Hid (allK (cs.take i) k = true)) (fun iv _ => cs.length - (intOf iv).toNat)
  case atStart => exact ⟨0, Nat.zero_le _, rfl, rfl, Lib.hid (by simp [allK])⟩
  case round =>
    obtain ⟨i, hi, rfl, rfl, HI⟩ := hrel
    by_cases hlt : i < cs.length
    · have hlti : (i : Int) < (cs.length : Int) := by omega
      have hi0 : (0 : Int) ≤ (i : Int) := by omega
      obtain ⟨b, o, rfl, hb, c0, c1⟩ := HR.out.at_ hlt
      have HT := Lib.hid (allK_take hlt HI.out)
      have HS := Lib.hid (fun h => allK_stop (k := k) hlt h)
      generalize cs[i] = ci at *
      by_cases hk : ci.1 = k
      · have e1 : (ci.1 == k) = true := beq_iff_eq.2 hk
        have HN : Hid (allK (cs.take (i + 1)) k = true) := Lib.hid (by rw [HT.out, e1])
        clear HT HS hk c1
        go_wp2_with fail
        go_roundw
        case rel => exact ⟨i + 1, by omega, by go_num, by first | rfl | trivial, HN⟩
        case measure => simp [intOf]; omega
      · have e1 : (ci.1 == k) = false := beq_eq_false_iff_ne.2 hk
        have HN : Hid (allK cs k = false) := Lib.hid (HS.out e1)
        clear HT HS c1
        go_wp2_with fail
        go_ret
        exact ⟨by rw [HN.out]; rfl, rfl⟩
    · have HN : Hid (allK cs k = true) := Lib.hid (by have := HI.out; rwa [List.take_of_length_le (by omega)] at this)
      have hlf : decide ((i : Int) < (cs.length : Int)) = false := decide_eq_false (by omega)
      go_wp2_with fail
      go_ret
      exact ⟨by rw [HN.out]; rfl, rfl⟩
set_option maxHeartbeats 4000000 in
set_option maxRecDepth 100000 in
theorem cases_any (A : Option Addr) (c : Nat) (cs : List Co) (k litk : Int) (w : World) (hr : KReads w w.heap.size A cs) (hn : cs.length ≤ 1000000) (ho : cs.length % 2 = 1) :
    Calls Tryz.prog 81 #[.slice A cs.length c] w fun x w' => x = .returned (.tuple #[.agg #[.int .i64 (combC 24 k litk cs).1.1, .bool (combC 24 k litk cs).1.2], .bool (combC 24 k litk cs).2]) ∧ Below w.heap.size w w' := by
  have hl0 : cs.length - 1 < cs.length := by omega
  obtain ⟨q, hq⟩ : ∃ q : Nat, q = cs.length - 1 := ⟨_, rfl⟩
  have hqi : (cs.length : Int) - 1 = (q : Int) := by omega
  have hqw : IntKind.i64.wrap ((cs.length : Int) - 1) = (q : Int) := by rw [hqi]; exact IntWalk.i64_in _ (by omega)
  have hq0 : (0 : Int) ≤ (q : Int) := by omega
  have hql : q < cs.length := by omega
  have hqli : (q : Int) < (cs.length : Int) := by omega
  obtain ⟨b, o, rfl, hb, l0, l1⟩ := hr.at_ hql
  have HLast : Hid (cs[cs.length - 1]? = some cs[q]) := Lib.hid (by rw [← hq]; exact List.getElem?_eq_getElem hql)
  have HSt := Lib.hid (CaseInv.start cs cs[q].1 cs[q].2)
  generalize cs[q] = last at *
  have HR := Lib.hid (And.intro hr (And.intro ho hq))
  have HQ : Hid (cs.length = q + 1) := Lib.hid (by omega)
  clear hr ho hq hl0
  go_enter Tryz.func81, Tryz.ntmps81
  go_wp2_with fail
  have HB0 : Hid (Below w.heap.size w ((w.alloc (.cells #[.int .i64 0, .bool false] 50)).alloc (.cells #[.int .i64 last.1, .bool last.2] 50)) ∧ Blk ((w.alloc (.cells #[.int .i64 0, .bool false] 50)).alloc (.cells #[.int .i64 last.1, .bool last.2] 50)) w.heap.size 50 #[.int .i64 0, .bool false] ∧ Blk ((w.alloc (.cells #[.int .i64 0, .bool false] 50)).alloc (.cells #[.int .i64 last.1, .bool last.2] 50)) (w.heap.size + 1) 50 #[.int .i64 last.1, .bool last.2]) := Lib.hid ⟨al (al (Below.refl _ _) _) _, (Blk.new w _ _).alloc _, Blk.new' (by simp)⟩
  go_loopw [6] (fun iv wr => ∃ (i : Nat) (n : Bool), i ≤ q ∧ iv = .int .i64 i ∧ Hid (Below w.heap.size w wr ∧ Blk wr w.heap.size 50 #[.int .i64 0, .bool false] ∧ Blk wr (w.heap.size + 1) 50 #[.int .i64 last.1, .bool n]) ∧ Hid (CaseInv cs last.1 last.2 i n)) (fun iv _ => q - (intOf iv).toNat)
  case atStart => exact ⟨0, last.2, Nat.zero_le _, rfl, HB0, HSt⟩
  case round =>
    obtain ⟨i, n, hi, rfl, HW, HI⟩ := hrel
    have hz := HW.out.2.1
    have hy := HW.out.2.2
    have z0 := hz.cell 0
    have z1 := hz.cell 1
    have y0 := hy.cell 0
    have y1 := hy.cell 1
    simp only [List.getElem?_toArray, List.getElem?_cons_succ, List.getElem?_cons_zero] at z0 z1 y0 y1
    have fz0 := hz.frozen 0
    have fz1 := hz.frozen 1
    have fy1 := hy.frozen 1
    have hzl := hz.lt
    have hyl := hy.lt
    clear hz hy
    by_cases hlt : i < q
    · have hlti : (i : Int) < (q : Int) := by omega
      have hi0 : (0 : Int) ≤ (i : Int) := by omega
      have hil : i < cs.length := by omega
      have hili : (i : Int) < (cs.length : Int) := by omega
      obtain ⟨b', o', he, hb', c0, c1⟩ := (HR.out.1.below HW.out.1 HW.out.1.size).at_ hil
      injection he with he
      injection he with he1 he2 _
      subst he1 he2
      have HX := Lib.hid (List.getElem?_eq_getElem hil)
      generalize cs[i] = ci at *
      have hp : i % 2 = 0 ∨ i % 2 = 1 := by omega
      rcases hp with hp | hp
      · have p0 : ((i : Int) % 2 == 0) = true := beq_iff_eq.2 (by omega)
        have p1 : ((i : Int) % 2 == 1) = false := beq_eq_false_iff_ne.2 (by omega)
        have p2 : (i : Int) % 2 = 0 := by omega
        have t0 : ((i : Int).tmod 2 == 0) = true := by rw [Int.tmod_eq_emod_of_nonneg hi0]; exact p0
        have t1 : ((i : Int).tmod 2 == 1) = false := by rw [Int.tmod_eq_emod_of_nonneg hi0]; exact p1
        by_cases hk : ci.1 = 2
        · have e1 : (ci.1 == 2) = true := beq_iff_eq.2 hk
          have e2 : (ci.1 != 2) = false := by rw [bne, e1]; rfl
          have HN := Lib.hid (HI.out.even_step hp HX.out hk)
          clear hp hk
          go_upto_region 6 with fail
          go_quiet (fail)
          replace HW : Hid (Below w.heap.size w (wr.drewN nq) ∧ Blk (wr.drewN nq) w.heap.size 50 #[.int .i64 0, .bool false] ∧ Blk (wr.drewN nq) (w.heap.size + 1) 50 #[.int .i64 last.1, .bool n]) := Lib.hid ⟨below_drewN HW.out.1 nq, HW.out.2.1.drewN nq, HW.out.2.2.drewN nq⟩
          have hcz1 : (wr.drewN nq).cell? ⟨b, o + i * 2 + 1, none⟩ = some (.bool ci.2) := c1
          generalize wr.drewN nq = wq at *
          have z0 := HW.out.2.1.cell 0
          have z1 := HW.out.2.1.cell 1
          have y0 := HW.out.2.2.cell 0
          have y1 := HW.out.2.2.cell 1
          simp only [List.getElem?_toArray, List.getElem?_cons_succ, List.getElem?_cons_zero] at z0 z1 y0 y1
          have fz0 := HW.out.2.1.frozen 0
          have fz1 := HW.out.2.1.frozen 1
          have fy1 := HW.out.2.2.frozen 1
          have hzl := HW.out.2.1.lt
          have hyl := HW.out.2.2.lt
          go_wp2_with fail
          exact ⟨⟨i + 1, n, by omega, by go_num, HW, HN⟩, by simp [intOf]; omega⟩
        · have e1 : (ci.1 == 2) = false := beq_eq_false_iff_ne.2 hk
          have e2 : (ci.1 != 2) = true := by rw [bne, e1]; rfl
          have HN := Lib.hid (case_even (by have := HQ.out; omega) hp HX.out hk k litk)
          clear hp hk
          go_upto_region 6 with fail
          go_quiet (fail)
          replace HW : Hid (Below w.heap.size w (wr.drewN nq) ∧ Blk (wr.drewN nq) w.heap.size 50 #[.int .i64 0, .bool false] ∧ Blk (wr.drewN nq) (w.heap.size + 1) 50 #[.int .i64 last.1, .bool n]) := Lib.hid ⟨below_drewN HW.out.1 nq, HW.out.2.1.drewN nq, HW.out.2.2.drewN nq⟩
          have hcz1 : (wr.drewN nq).cell? ⟨b, o + i * 2 + 1, none⟩ = some (.bool ci.2) := c1
          generalize wr.drewN nq = wq at *
          have z0 := HW.out.2.1.cell 0
          have z1 := HW.out.2.1.cell 1
          have y0 := HW.out.2.2.cell 0
          have y1 := HW.out.2.2.cell 1
          simp only [List.getElem?_toArray, List.getElem?_cons_succ, List.getElem?_cons_zero] at z0 z1 y0 y1
          have fz0 := HW.out.2.1.frozen 0
          have fz1 := HW.out.2.1.frozen 1
          have fy1 := HW.out.2.2.frozen 1
          have hzl := HW.out.2.1.lt
          have hyl := HW.out.2.2.lt
          have HZ := Lib.hid (((HW.out.2.1.set_ 0 (.int .i64 0)).set_ 1 (.bool false)))
          have HZb : Hid (Below w.heap.size w ((wq.setCell ⟨w.heap.size, 0, none⟩ (.int .i64 0)).setCell ⟨w.heap.size, 1, none⟩ (.bool false))) := Lib.hid ((HW.out.1.setCell (p := ⟨w.heap.size, 0, none⟩) (Nat.le_refl _) _).setCell (p := ⟨w.heap.size, 1, none⟩) (Nat.le_refl _) _)
          go_wp2_with fail
          have k0 := HZ.out.cell 0
          have k1 := HZ.out.cell 1
          simp at k0 k1
          exact bodyPost_ret (v := .tuple #[.agg #[.int .i64 0, .bool false], .bool false]) (by simp [results, Tryz.results81, go_sem, k0, k1]) rfl ⟨by rw [HN.out], HZb.out⟩
      · have p0 : ((i : Int) % 2 == 0) = false := beq_eq_false_iff_ne.2 (by omega)
        have p1 : ((i : Int) % 2 == 1) = true := beq_iff_eq.2 (by omega)
        have p2 : (i : Int) % 2 = 1 := by omega
        have t0 : ((i : Int).tmod 2 == 0) = false := by rw [Int.tmod_eq_emod_of_nonneg hi0]; exact p0
        have t1 : ((i : Int).tmod 2 == 1) = true := by rw [Int.tmod_eq_emod_of_nonneg hi0]; exact p1
        by_cases hk : ci.1 = last.1
        · have e1 : (ci.1 == last.1) = true := beq_iff_eq.2 hk
          have e2 : (ci.1 != last.1) = false := by rw [bne, e1]; rfl
          have HN := Lib.hid (HI.out.odd_step hp HX.out hk)
          clear hp hk
          go_upto_region 6 with fail
          go_quiet (fail)
          replace HW : Hid (Below w.heap.size w (wr.drewN nq) ∧ Blk (wr.drewN nq) w.heap.size 50 #[.int .i64 0, .bool false] ∧ Blk (wr.drewN nq) (w.heap.size + 1) 50 #[.int .i64 last.1, .bool n]) := Lib.hid ⟨below_drewN HW.out.1 nq, HW.out.2.1.drewN nq, HW.out.2.2.drewN nq⟩
          have hcz1 : (wr.drewN nq).cell? ⟨b, o + i * 2 + 1, none⟩ = some (.bool ci.2) := c1
          generalize wr.drewN nq = wq at *
          have z0 := HW.out.2.1.cell 0
          have z1 := HW.out.2.1.cell 1
          have y0 := HW.out.2.2.cell 0
          have y1 := HW.out.2.2.cell 1
          simp only [List.getElem?_toArray, List.getElem?_cons_succ, List.getElem?_cons_zero] at z0 z1 y0 y1
          have fz0 := HW.out.2.1.frozen 0
          have fz1 := HW.out.2.1.frozen 1
          have fy1 := HW.out.2.2.frozen 1
          have hzl := HW.out.2.1.lt
          have hyl := HW.out.2.2.lt
          have HS : Hid (Below w.heap.size w (wq.setCell ⟨w.heap.size + 1, 1, none⟩ (.bool (n || ci.2))) ∧ Blk (wq.setCell ⟨w.heap.size + 1, 1, none⟩ (.bool (n || ci.2))) w.heap.size 50 #[.int .i64 0, .bool false] ∧ Blk (wq.setCell ⟨w.heap.size + 1, 1, none⟩ (.bool (n || ci.2))) (w.heap.size + 1) 50 #[.int .i64 last.1, .bool (n || ci.2)]) := Lib.hid ⟨HW.out.1.setCell (p := ⟨w.heap.size + 1, 1, none⟩) (by simp) _, HW.out.2.1.far (by simp) _, HW.out.2.2.set_ 1 _⟩
          cases n
          · simp only [Bool.false_or] at HS HN
            go_wp2_with fail
            exact ⟨⟨i + 1, ci.2, by omega, by go_num, HS, HN⟩, by simp [intOf]; omega⟩
          · simp only [Bool.true_or] at HS HN
            go_wp2_with fail
            exact ⟨⟨i + 1, true, by omega, by go_num, HS, HN⟩, by simp [intOf]; omega⟩
        · have e1 : (ci.1 == last.1) = false := beq_eq_false_iff_ne.2 hk
          have e2 : (ci.1 != last.1) = true := by rw [bne, e1]; rfl
          have HN := Lib.hid (case_odd (by have := HQ.out; omega) hp HR.out.2.1 HX.out HLast.out hk k litk)
          clear hp hk
          go_upto_region 6 with fail
          go_quiet (fail)
          replace HW : Hid (Below w.heap.size w (wr.drewN nq) ∧ Blk (wr.drewN nq) w.heap.size 50 #[.int .i64 0, .bool false] ∧ Blk (wr.drewN nq) (w.heap.size + 1) 50 #[.int .i64 last.1, .bool n]) := Lib.hid ⟨below_drewN HW.out.1 nq, HW.out.2.1.drewN nq, HW.out.2.2.drewN nq⟩
          have hcz1 : (wr.drewN nq).cell? ⟨b, o + i * 2 + 1, none⟩ = some (.bool ci.2) := c1
          generalize wr.drewN nq = wq at *
          have z0 := HW.out.2.1.cell 0
          have z1 := HW.out.2.1.cell 1
          have y0 := HW.out.2.2.cell 0
          have y1 := HW.out.2.2.cell 1
          simp only [List.getElem?_toArray, List.getElem?_cons_succ, List.getElem?_cons_zero] at z0 z1 y0 y1
          have fz0 := HW.out.2.1.frozen 0
          have fz1 := HW.out.2.1.frozen 1
          have fy1 := HW.out.2.2.frozen 1
          have hzl := HW.out.2.1.lt
          have hyl := HW.out.2.2.lt
          have HZ := Lib.hid (((HW.out.2.1.set_ 0 (.int .i64 0)).set_ 1 (.bool false)))
          have HZb : Hid (Below w.heap.size w ((wq.setCell ⟨w.heap.size, 0, none⟩ (.int .i64 0)).setCell ⟨w.heap.size, 1, none⟩ (.bool false))) := Lib.hid ((HW.out.1.setCell (p := ⟨w.heap.size, 0, none⟩) (Nat.le_refl _) _).setCell (p := ⟨w.heap.size, 1, none⟩) (Nat.le_refl _) _)
          go_wp2_with fail
          have k0 := HZ.out.cell 0
          have k1 := HZ.out.cell 1
          simp at k0 k1
          exact bodyPost_ret (v := .tuple #[.agg #[.int .i64 0, .bool false], .bool false]) (by simp [results, Tryz.results81, go_sem, k0, k1]) rfl ⟨by rw [HN.out], HZb.out⟩
    · have hie : i = q := by omega
      have HN : Hid (combC 24 k litk cs = ((last.1, n), true)) := Lib.hid (CaseInv.done (by rw [← HR.out.2.2, ← hie]; exact HI.out) HR.out.2.1 HLast.out k litk)
      have hlf : decide ((i : Int) < (q : Int)) = false := decide_eq_false (by omega)
      have HZ := Lib.hid (((HW.out.2.1.set_ 0 (.int .i64 last.1)).set_ 1 (.bool n)))
      have HZb : Hid (Below w.heap.size w ((wr.setCell ⟨w.heap.size, 0, none⟩ (.int .i64 last.1)).setCell ⟨w.heap.size, 1, none⟩ (.bool n))) := Lib.hid ((HW.out.1.setCell (p := ⟨w.heap.size, 0, none⟩) (Nat.le_refl _) _).setCell (p := ⟨w.heap.size, 1, none⟩) (Nat.le_refl _) _)
      clear hie
      go_wp2_with fail
      have k0 := HZ.out.cell 0
      have k1 := HZ.out.cell 1
      simp at k0 k1
      exact bodyPost_ret (v := .tuple #[.agg #[.int .i64 last.1, .bool n], .bool true]) (by simp [results, Tryz.results81, go_sem, k0, k1]) rfl ⟨by rw [HN.out], HZb.out⟩
end Go.Proofs.YtcbcncaoabablaaGreatDoor
namespace Go.Proofs.YtcbcncaoabablaaGreatDoor
open Go.RowKit Go.Deep

theorem anyN_take {l : List Co} {i : Nat} (h : i < l.length) : anyN (l.take (i + 1)) = (anyN (l.take i) || l[i].2) := by
  unfold anyN
  rw [List.take_succ_eq_append_getElem h, List.any_append]
  simp
theorem allN_take {l : List Co} {i : Nat} (h : i < l.length) : (l.take (i + 1)).all Prod.snd = ((l.take i).all Prod.snd && l[i].2) := by
  rw [List.take_succ_eq_append_getElem h, List.all_append]
  simp
theorem fstK_zero {l : List Co} (h : 0 < l.length) : fstK l = l[0].1 := by
  cases l with
  | nil => cases h
  | cons x r => rfl
set_option maxHeartbeats 16000000 in
set_option maxRecDepth 100000 in
theorem CombinedR_any (op n m kind lk ln : Int) (ls : ByteArray) (A R : Option Addr) (an rn c d : Nat) (cs : List Co) (Ac : Option Addr) (cc : Nat) (w : World)
    (hC : KReads w w.heap.size Ac cs) (hn : cs.length ≤ 1000000) (h3 : 3 ≤ op) (h25 : op ≤ 25) (h0 : 4 ≤ op → 0 < cs.length) (ho : op = 24 → cs.length % 2 = 1) :
    Calls Tryz.prog 53 #[.agg #[.int .i64 op, .int .i64 n, .int .i64 m, .int .i64 kind, .int .i64 lk, .int .i64 ln, .string ls, .slice A an c, .slice R rn d], .slice Ac cs.length cc] w fun x w' => x = .returned (.tuple #[.agg #[.int .i64 (combC op kind lk cs).1.1, .bool (combC op kind lk cs).1.2], .bool (combC op kind lk cs).2]) ∧ Below w.heap.size w w' := by
  have HA : Hid (∀ k w1, Below w.heap.size w w1 → Calls Tryz.prog 80 #[.slice Ac cs.length cc, .int .i64 k] w1 fun x w' => x = .returned (.bool (allK cs k)) ∧ w' = w1) := Lib.hid fun k w1 hb => all_any k Ac cc cs w1 (hC.below hb hb.size) hn
  have HC : Hid (cs.length % 2 = 1 → ∀ w1, Below w.heap.size w w1 → Calls Tryz.prog 81 #[.slice Ac cs.length cc] w1 fun x w' => x = .returned (.tuple #[.agg #[.int .i64 (combC 24 kind lk cs).1.1, .bool (combC 24 kind lk cs).1.2], .bool (combC 24 kind lk cs).2]) ∧ Below w1.heap.size w1 w') := Lib.hid fun ho w1 hb => cases_any Ac cc cs kind lk w1 (hC.below hb hb.size) hn ho
  have HHd : Hid (4 ≤ op → ∃ b o, Ac = some ⟨b, o, none⟩ ∧ b < w.heap.size ∧ w.cell? ⟨b, o, none⟩ = some (.int .i64 (fstK cs)) ∧ (0 : Int) < (cs.length : Int)) := Lib.hid fun h4 => by
    have hl := h0 h4
    obtain ⟨b, o, e, hblk, c0, c1⟩ := hC.at_ hl
    refine ⟨b, o, e, hblk, ?_, by omega⟩
    rw [Nat.zero_mul, Nat.add_zero] at c0
    rw [c0, fstK_zero hl]
  have HOdd := Lib.hid ho
  have HH := Lib.hid (And.intro hC hn)
  have H0 : Hid (Below w.heap.size w ((w.alloc (.cells #[.int .i64 op, .int .i64 n, .int .i64 m, .int .i64 kind, .int .i64 lk, .int .i64 ln, .string ls, .slice A an c, .slice R rn d] 29)).alloc (.cells #[.int .i64 0, .bool false] 50)) ∧ Blk ((w.alloc (.cells #[.int .i64 op, .int .i64 n, .int .i64 m, .int .i64 kind, .int .i64 lk, .int .i64 ln, .string ls, .slice A an c, .slice R rn d] 29)).alloc (.cells #[.int .i64 0, .bool false] 50)) w.heap.size 29 #[.int .i64 op, .int .i64 n, .int .i64 m, .int .i64 kind, .int .i64 lk, .int .i64 ln, .string ls, .slice A an c, .slice R rn d] ∧ Blk ((w.alloc (.cells #[.int .i64 op, .int .i64 n, .int .i64 m, .int .i64 kind, .int .i64 lk, .int .i64 ln, .string ls, .slice A an c, .slice R rn d] 29)).alloc (.cells #[.int .i64 0, .bool false] 50)) (w.heap.size + 1) 50 #[.int .i64 0, .bool false]) := Lib.hid ⟨al (al (Below.refl _ _) _) _, (Blk.new w _ _).alloc _, Blk.new' (by simp)⟩
  clear h0 ho hC
  go_enter Tryz.func53, Tryz.ntmps53
  go_wp2_with fail
  go_loopw [6, 7] (fun nv iv wr => ∃ i : Nat, i ≤ cs.length ∧ iv = .int .i64 i ∧ nv = .bool (anyN (cs.take i)) ∧ Hid (Below w.heap.size w wr ∧ Blk wr w.heap.size 29 #[.int .i64 op, .int .i64 n, .int .i64 m, .int .i64 kind, .int .i64 lk, .int .i64 ln, .string ls, .slice A an c, .slice R rn d] ∧ Blk wr (w.heap.size + 1) 50 #[.int .i64 0, .bool false])) (fun _ iv _ => cs.length - (intOf iv).toNat)
  case atStart => exact ⟨0, Nat.zero_le _, rfl, by rw [List.take_zero]; rfl, H0⟩
  case round =>
    clear H0
    obtain ⟨i, hi, rfl, rfl, HW⟩ := hrel
    by_cases hlt : i < cs.length
    · have hlti : (i : Int) < (cs.length : Int) := by omega
      have hi0 : (0 : Int) ≤ (i : Int) := by omega
      obtain ⟨b, o, rfl, hb, c0, c1⟩ := (HH.out.1.below HW.out.1 HW.out.1.size).at_ hlt
      have HT := Lib.hid (anyN_take hlt)
      clear HA HC HHd h3 h25
      generalize cs[i] = ci at *
      generalize hq : anyN (cs.take i) = q at *
      cases q
      · have HN : Hid (anyN (cs.take (i + 1)) = ci.2) := Lib.hid (by rw [HT.out, Bool.false_or])
        clear HT hq
        go_wp2_with fail
        go_roundw
        case rel => exact ⟨i + 1, by omega, by go_num, by rw [HN.out], HW⟩
        case measure => simp [intOf]; omega
      · have HN : Hid (anyN (cs.take (i + 1)) = true) := Lib.hid (by rw [HT.out, Bool.true_or])
        clear HT hq
        go_wp2_with fail
        go_roundw
        case rel => exact ⟨i + 1, by omega, by go_num, by rw [HN.out], HW⟩
        case measure => simp [intOf]; omega
    have hlf : decide ((i : Int) < (cs.length : Int)) = false := decide_eq_false (by omega)
    rw [List.take_of_length_le (by omega)]
    have a0 := HW.out.2.1
    have hz := HW.out.2.2
    have x0 := a0.cell 0
    have x3 := a0.cell 3
    have x4 := a0.cell 4
    have z0 := hz.cell 0
    have z1 := hz.cell 1
    simp only [List.getElem?_toArray, List.getElem?_cons_succ, List.getElem?_cons_zero] at x0 x3 x4 z0 z1
    have fz0 := hz.frozen 0
    have fz1 := hz.frozen 1
    have hzl := hz.lt
    have hal := a0.lt
    clear a0 hz
    have hop : op = 3 ∨ op = 4 ∨ op = 5 ∨ op = 6 ∨ op = 7 ∨ op = 8 ∨ op = 9 ∨ op = 10 ∨ op = 11 ∨ op = 12 ∨ op = 13 ∨ op = 14 ∨ op = 15 ∨ op = 16 ∨ op = 17 ∨ op = 18 ∨ op = 19 ∨ op = 20 ∨ op = 21 ∨ op = 22 ∨ op = 23 ∨ op = 24 ∨ op = 25 := by omega
    clear h3 h25
    rcases hop with rfl | rfl | rfl | rfl | rfl | rfl | rfl | rfl | rfl | rfl | rfl | rfl | rfl | rfl | rfl | rfl | rfl | rfl | rfl | rfl | rfl | rfl | rfl
    · have HN : Hid (combC 3 kind lk cs = ((kind, lk == 0), true)) := Lib.hid (by simp [combC])
      clear HA HC HHd
      have HZ := Lib.hid (((HW.out.2.2.set_ 0 (.int .i64 kind)).set_ 1 (.bool (lk == 0))))
      have HZb : Hid (Below w.heap.size w ((wr.setCell ⟨w.heap.size + 1, 0, none⟩ (.int .i64 kind)).setCell ⟨w.heap.size + 1, 1, none⟩ (.bool (lk == 0)))) := Lib.hid ((HW.out.1.setCell (p := ⟨w.heap.size + 1, 0, none⟩) (by simp <;> omega) _).setCell (p := ⟨w.heap.size + 1, 1, none⟩) (by simp <;> omega) _)
      go_wp2_with fail
      have k0 := HZ.out.cell 0
      have k1 := HZ.out.cell 1
      simp at k0 k1
      exact bodyPost_ret (v := .tuple #[.agg #[.int .i64 kind, .bool (lk == 0)], .bool true]) (by simp [results, Tryz.results53, go_sem, k0, k1]) rfl ⟨by rw [HN.out], HZb.out⟩
    · have HN : Hid (combC 4 kind lk cs = ((1, (anyN cs)), allK cs 1)) := Lib.hid (by simp [combC])
      have HX := HA.out 1 wr HW.out.1
      clear HA HC HHd
      generalize allK cs 1 = ak at *
      generalize anyN cs = nn at *
      go_wp2_with fail
      refine HX.mono ?_
      rintro x w2 ⟨rfl, rfl⟩
      clear HX
      have HZ := Lib.hid (((HW.out.2.2.set_ 0 (.int .i64 1)).set_ 1 (.bool nn)))
      have HZb : Hid (Below w.heap.size w ((w2.setCell ⟨w.heap.size + 1, 0, none⟩ (.int .i64 1)).setCell ⟨w.heap.size + 1, 1, none⟩ (.bool nn))) := Lib.hid ((HW.out.1.setCell (p := ⟨w.heap.size + 1, 0, none⟩) (by simp <;> omega) _).setCell (p := ⟨w.heap.size + 1, 1, none⟩) (by simp <;> omega) _)
      go_wp2_with fail
      have k0 := HZ.out.cell 0
      have k1 := HZ.out.cell 1
      simp at k0 k1
      exact bodyPost_ret (v := .tuple #[.agg #[.int .i64 1, .bool nn], .bool ak]) (by simp [results, Tryz.results53, go_sem, k0, k1]) rfl ⟨by rw [HN.out], HZb.out⟩
    · have HN : Hid (combC 5 kind lk cs = ((1, (anyN cs)), allK cs 1)) := Lib.hid (by simp [combC])
      have HX := HA.out 1 wr HW.out.1
      clear HA HC HHd
      generalize allK cs 1 = ak at *
      generalize anyN cs = nn at *
      go_wp2_with fail
      refine HX.mono ?_
      rintro x w2 ⟨rfl, rfl⟩
      clear HX
      have HZ := Lib.hid (((HW.out.2.2.set_ 0 (.int .i64 1)).set_ 1 (.bool nn)))
      have HZb : Hid (Below w.heap.size w ((w2.setCell ⟨w.heap.size + 1, 0, none⟩ (.int .i64 1)).setCell ⟨w.heap.size + 1, 1, none⟩ (.bool nn))) := Lib.hid ((HW.out.1.setCell (p := ⟨w.heap.size + 1, 0, none⟩) (by simp <;> omega) _).setCell (p := ⟨w.heap.size + 1, 1, none⟩) (by simp <;> omega) _)
      go_wp2_with fail
      have k0 := HZ.out.cell 0
      have k1 := HZ.out.cell 1
      simp at k0 k1
      exact bodyPost_ret (v := .tuple #[.agg #[.int .i64 1, .bool nn], .bool ak]) (by simp [results, Tryz.results53, go_sem, k0, k1]) rfl ⟨by rw [HN.out], HZb.out⟩
    · have HN : Hid (combC 6 kind lk cs = ((1, (anyN cs)), allK cs 1)) := Lib.hid (by simp [combC])
      have HX := HA.out 1 wr HW.out.1
      clear HA HC HHd
      generalize allK cs 1 = ak at *
      generalize anyN cs = nn at *
      go_wp2_with fail
      refine HX.mono ?_
      rintro x w2 ⟨rfl, rfl⟩
      clear HX
      have HZ := Lib.hid (((HW.out.2.2.set_ 0 (.int .i64 1)).set_ 1 (.bool nn)))
      have HZb : Hid (Below w.heap.size w ((w2.setCell ⟨w.heap.size + 1, 0, none⟩ (.int .i64 1)).setCell ⟨w.heap.size + 1, 1, none⟩ (.bool nn))) := Lib.hid ((HW.out.1.setCell (p := ⟨w.heap.size + 1, 0, none⟩) (by simp <;> omega) _).setCell (p := ⟨w.heap.size + 1, 1, none⟩) (by simp <;> omega) _)
      go_wp2_with fail
      have k0 := HZ.out.cell 0
      have k1 := HZ.out.cell 1
      simp at k0 k1
      exact bodyPost_ret (v := .tuple #[.agg #[.int .i64 1, .bool nn], .bool ak]) (by simp [results, Tryz.results53, go_sem, k0, k1]) rfl ⟨by rw [HN.out], HZb.out⟩
    · have HN : Hid (combC 7 kind lk cs = ((1, true), allK cs 1)) := Lib.hid (by simp [combC])
      have HX := HA.out 1 wr HW.out.1
      clear HA HC HHd
      generalize allK cs 1 = ak at *
      generalize anyN cs = nn at *
      go_wp2_with fail
      refine HX.mono ?_
      rintro x w2 ⟨rfl, rfl⟩
      clear HX
      have HZ := Lib.hid (((HW.out.2.2.set_ 0 (.int .i64 1)).set_ 1 (.bool true)))
      have HZb : Hid (Below w.heap.size w ((w2.setCell ⟨w.heap.size + 1, 0, none⟩ (.int .i64 1)).setCell ⟨w.heap.size + 1, 1, none⟩ (.bool true))) := Lib.hid ((HW.out.1.setCell (p := ⟨w.heap.size + 1, 0, none⟩) (by simp <;> omega) _).setCell (p := ⟨w.heap.size + 1, 1, none⟩) (by simp <;> omega) _)
      go_wp2_with fail
      have k0 := HZ.out.cell 0
      have k1 := HZ.out.cell 1
      simp at k0 k1
      exact bodyPost_ret (v := .tuple #[.agg #[.int .i64 1, .bool true], .bool ak]) (by simp [results, Tryz.results53, go_sem, k0, k1]) rfl ⟨by rw [HN.out], HZb.out⟩
    · have HN : Hid (combC 8 kind lk cs = ((1, true), allK cs 1)) := Lib.hid (by simp [combC])
      have HX := HA.out 1 wr HW.out.1
      clear HA HC HHd
      generalize allK cs 1 = ak at *
      generalize anyN cs = nn at *
      go_wp2_with fail
      refine HX.mono ?_
      rintro x w2 ⟨rfl, rfl⟩
      clear HX
      have HZ := Lib.hid (((HW.out.2.2.set_ 0 (.int .i64 1)).set_ 1 (.bool true)))
      have HZb : Hid (Below w.heap.size w ((w2.setCell ⟨w.heap.size + 1, 0, none⟩ (.int .i64 1)).setCell ⟨w.heap.size + 1, 1, none⟩ (.bool true))) := Lib.hid ((HW.out.1.setCell (p := ⟨w.heap.size + 1, 0, none⟩) (by simp <;> omega) _).setCell (p := ⟨w.heap.size + 1, 1, none⟩) (by simp <;> omega) _)
      go_wp2_with fail
      have k0 := HZ.out.cell 0
      have k1 := HZ.out.cell 1
      simp at k0 k1
      exact bodyPost_ret (v := .tuple #[.agg #[.int .i64 1, .bool true], .bool ak]) (by simp [results, Tryz.results53, go_sem, k0, k1]) rfl ⟨by rw [HN.out], HZb.out⟩
    · have HN : Hid (combC 9 kind lk cs = ((1, (anyN cs)), allK cs 1)) := Lib.hid (by simp [combC])
      have HX := HA.out 1 wr HW.out.1
      clear HA HC HHd
      generalize allK cs 1 = ak at *
      generalize anyN cs = nn at *
      go_wp2_with fail
      refine HX.mono ?_
      rintro x w2 ⟨rfl, rfl⟩
      clear HX
      have HZ := Lib.hid (((HW.out.2.2.set_ 0 (.int .i64 1)).set_ 1 (.bool nn)))
      have HZb : Hid (Below w.heap.size w ((w2.setCell ⟨w.heap.size + 1, 0, none⟩ (.int .i64 1)).setCell ⟨w.heap.size + 1, 1, none⟩ (.bool nn))) := Lib.hid ((HW.out.1.setCell (p := ⟨w.heap.size + 1, 0, none⟩) (by simp <;> omega) _).setCell (p := ⟨w.heap.size + 1, 1, none⟩) (by simp <;> omega) _)
      go_wp2_with fail
      have k0 := HZ.out.cell 0
      have k1 := HZ.out.cell 1
      simp at k0 k1
      exact bodyPost_ret (v := .tuple #[.agg #[.int .i64 1, .bool nn], .bool ak]) (by simp [results, Tryz.results53, go_sem, k0, k1]) rfl ⟨by rw [HN.out], HZb.out⟩
    · have HN : Hid (combC 10 kind lk cs = ((3, (anyN cs)), allK cs 3)) := Lib.hid (by simp [combC])
      have HX := HA.out 3 wr HW.out.1
      clear HA HC HHd
      generalize allK cs 3 = ak at *
      generalize anyN cs = nn at *
      go_wp2_with fail
      refine HX.mono ?_
      rintro x w2 ⟨rfl, rfl⟩
      clear HX
      have HZ := Lib.hid (((HW.out.2.2.set_ 0 (.int .i64 3)).set_ 1 (.bool nn)))
      have HZb : Hid (Below w.heap.size w ((w2.setCell ⟨w.heap.size + 1, 0, none⟩ (.int .i64 3)).setCell ⟨w.heap.size + 1, 1, none⟩ (.bool nn))) := Lib.hid ((HW.out.1.setCell (p := ⟨w.heap.size + 1, 0, none⟩) (by simp <;> omega) _).setCell (p := ⟨w.heap.size + 1, 1, none⟩) (by simp <;> omega) _)
      go_wp2_with fail
      have k0 := HZ.out.cell 0
      have k1 := HZ.out.cell 1
      simp at k0 k1
      exact bodyPost_ret (v := .tuple #[.agg #[.int .i64 3, .bool nn], .bool ak]) (by simp [results, Tryz.results53, go_sem, k0, k1]) rfl ⟨by rw [HN.out], HZb.out⟩
    · have HN : Hid (combC 11 kind lk cs = ((1, (anyN cs)), allK cs 3)) := Lib.hid (by simp [combC])
      have HX := HA.out 3 wr HW.out.1
      clear HA HC HHd
      generalize allK cs 3 = ak at *
      generalize anyN cs = nn at *
      go_wp2_with fail
      refine HX.mono ?_
      rintro x w2 ⟨rfl, rfl⟩
      clear HX
      have HZ := Lib.hid (((HW.out.2.2.set_ 0 (.int .i64 1)).set_ 1 (.bool nn)))
      have HZb : Hid (Below w.heap.size w ((w2.setCell ⟨w.heap.size + 1, 0, none⟩ (.int .i64 1)).setCell ⟨w.heap.size + 1, 1, none⟩ (.bool nn))) := Lib.hid ((HW.out.1.setCell (p := ⟨w.heap.size + 1, 0, none⟩) (by simp <;> omega) _).setCell (p := ⟨w.heap.size + 1, 1, none⟩) (by simp <;> omega) _)
      go_wp2_with fail
      have k0 := HZ.out.cell 0
      have k1 := HZ.out.cell 1
      simp at k0 k1
      exact bodyPost_ret (v := .tuple #[.agg #[.int .i64 1, .bool nn], .bool ak]) (by simp [results, Tryz.results53, go_sem, k0, k1]) rfl ⟨by rw [HN.out], HZb.out⟩
    · have HN : Hid (combC 12 kind lk cs = ((2, (anyN cs)), allK cs (fstK cs))) := Lib.hid (by simp [combC])
      have HX := HA.out (fstK cs) wr HW.out.1
      have hf0 := HHd.out (by decide)
      obtain ⟨b, o, rfl, hblk, f0, hfl⟩ := hf0
      replace f0 := (HW.out.1.cell (p := ⟨b, o, none⟩) hblk).trans f0
      clear hblk
      clear HA HC HHd
      generalize allK cs (fstK cs) = ak at *
      generalize anyN cs = nn at *
      generalize fstK cs = fk at *
      go_wp2_with fail
      refine HX.mono ?_
      rintro x w2 ⟨rfl, rfl⟩
      clear HX
      have HZ := Lib.hid (((HW.out.2.2.set_ 0 (.int .i64 2)).set_ 1 (.bool nn)))
      have HZb : Hid (Below w.heap.size w ((w2.setCell ⟨w.heap.size + 1, 0, none⟩ (.int .i64 2)).setCell ⟨w.heap.size + 1, 1, none⟩ (.bool nn))) := Lib.hid ((HW.out.1.setCell (p := ⟨w.heap.size + 1, 0, none⟩) (by simp <;> omega) _).setCell (p := ⟨w.heap.size + 1, 1, none⟩) (by simp <;> omega) _)
      go_wp2_with fail
      have k0 := HZ.out.cell 0
      have k1 := HZ.out.cell 1
      simp at k0 k1
      exact bodyPost_ret (v := .tuple #[.agg #[.int .i64 2, .bool nn], .bool ak]) (by simp [results, Tryz.results53, go_sem, k0, k1]) rfl ⟨by rw [HN.out], HZb.out⟩
    · have HN : Hid (combC 13 kind lk cs = ((2, (anyN cs)), allK cs (fstK cs))) := Lib.hid (by simp [combC])
      have HX := HA.out (fstK cs) wr HW.out.1
      have hf0 := HHd.out (by decide)
      obtain ⟨b, o, rfl, hblk, f0, hfl⟩ := hf0
      replace f0 := (HW.out.1.cell (p := ⟨b, o, none⟩) hblk).trans f0
      clear hblk
      clear HA HC HHd
      generalize allK cs (fstK cs) = ak at *
      generalize anyN cs = nn at *
      generalize fstK cs = fk at *
      go_wp2_with fail
      refine HX.mono ?_
      rintro x w2 ⟨rfl, rfl⟩
      clear HX
      have HZ := Lib.hid (((HW.out.2.2.set_ 0 (.int .i64 2)).set_ 1 (.bool nn)))
      have HZb : Hid (Below w.heap.size w ((w2.setCell ⟨w.heap.size + 1, 0, none⟩ (.int .i64 2)).setCell ⟨w.heap.size + 1, 1, none⟩ (.bool nn))) := Lib.hid ((HW.out.1.setCell (p := ⟨w.heap.size + 1, 0, none⟩) (by simp <;> omega) _).setCell (p := ⟨w.heap.size + 1, 1, none⟩) (by simp <;> omega) _)
      go_wp2_with fail
      have k0 := HZ.out.cell 0
      have k1 := HZ.out.cell 1
      simp at k0 k1
      exact bodyPost_ret (v := .tuple #[.agg #[.int .i64 2, .bool nn], .bool ak]) (by simp [results, Tryz.results53, go_sem, k0, k1]) rfl ⟨by rw [HN.out], HZb.out⟩
    · have HN : Hid (combC 14 kind lk cs = ((2, (anyN cs)), allK cs (fstK cs))) := Lib.hid (by simp [combC])
      have HX := HA.out (fstK cs) wr HW.out.1
      have hf0 := HHd.out (by decide)
      obtain ⟨b, o, rfl, hblk, f0, hfl⟩ := hf0
      replace f0 := (HW.out.1.cell (p := ⟨b, o, none⟩) hblk).trans f0
      clear hblk
      clear HA HC HHd
      generalize allK cs (fstK cs) = ak at *
      generalize anyN cs = nn at *
      generalize fstK cs = fk at *
      go_wp2_with fail
      refine HX.mono ?_
      rintro x w2 ⟨rfl, rfl⟩
      clear HX
      have HZ := Lib.hid (((HW.out.2.2.set_ 0 (.int .i64 2)).set_ 1 (.bool nn)))
      have HZb : Hid (Below w.heap.size w ((w2.setCell ⟨w.heap.size + 1, 0, none⟩ (.int .i64 2)).setCell ⟨w.heap.size + 1, 1, none⟩ (.bool nn))) := Lib.hid ((HW.out.1.setCell (p := ⟨w.heap.size + 1, 0, none⟩) (by simp <;> omega) _).setCell (p := ⟨w.heap.size + 1, 1, none⟩) (by simp <;> omega) _)
      go_wp2_with fail
      have k0 := HZ.out.cell 0
      have k1 := HZ.out.cell 1
      simp at k0 k1
      exact bodyPost_ret (v := .tuple #[.agg #[.int .i64 2, .bool nn], .bool ak]) (by simp [results, Tryz.results53, go_sem, k0, k1]) rfl ⟨by rw [HN.out], HZb.out⟩
    · have HN : Hid (combC 15 kind lk cs = ((2, (anyN cs)), allK cs (fstK cs))) := Lib.hid (by simp [combC])
      have HX := HA.out (fstK cs) wr HW.out.1
      have hf0 := HHd.out (by decide)
      obtain ⟨b, o, rfl, hblk, f0, hfl⟩ := hf0
      replace f0 := (HW.out.1.cell (p := ⟨b, o, none⟩) hblk).trans f0
      clear hblk
      clear HA HC HHd
      generalize allK cs (fstK cs) = ak at *
      generalize anyN cs = nn at *
      generalize fstK cs = fk at *
      go_wp2_with fail
      refine HX.mono ?_
      rintro x w2 ⟨rfl, rfl⟩
      clear HX
      have HZ := Lib.hid (((HW.out.2.2.set_ 0 (.int .i64 2)).set_ 1 (.bool nn)))
      have HZb : Hid (Below w.heap.size w ((w2.setCell ⟨w.heap.size + 1, 0, none⟩ (.int .i64 2)).setCell ⟨w.heap.size + 1, 1, none⟩ (.bool nn))) := Lib.hid ((HW.out.1.setCell (p := ⟨w.heap.size + 1, 0, none⟩) (by simp <;> omega) _).setCell (p := ⟨w.heap.size + 1, 1, none⟩) (by simp <;> omega) _)
      go_wp2_with fail
      have k0 := HZ.out.cell 0
      have k1 := HZ.out.cell 1
      simp at k0 k1
      exact bodyPost_ret (v := .tuple #[.agg #[.int .i64 2, .bool nn], .bool ak]) (by simp [results, Tryz.results53, go_sem, k0, k1]) rfl ⟨by rw [HN.out], HZb.out⟩
    · have HN : Hid (combC 16 kind lk cs = ((2, (anyN cs)), allK cs (fstK cs))) := Lib.hid (by simp [combC])
      have HX := HA.out (fstK cs) wr HW.out.1
      have hf0 := HHd.out (by decide)
      obtain ⟨b, o, rfl, hblk, f0, hfl⟩ := hf0
      replace f0 := (HW.out.1.cell (p := ⟨b, o, none⟩) hblk).trans f0
      clear hblk
      clear HA HC HHd
      generalize allK cs (fstK cs) = ak at *
      generalize anyN cs = nn at *
      generalize fstK cs = fk at *
      go_wp2_with fail
      refine HX.mono ?_
      rintro x w2 ⟨rfl, rfl⟩
      clear HX
      have HZ := Lib.hid (((HW.out.2.2.set_ 0 (.int .i64 2)).set_ 1 (.bool nn)))
      have HZb : Hid (Below w.heap.size w ((w2.setCell ⟨w.heap.size + 1, 0, none⟩ (.int .i64 2)).setCell ⟨w.heap.size + 1, 1, none⟩ (.bool nn))) := Lib.hid ((HW.out.1.setCell (p := ⟨w.heap.size + 1, 0, none⟩) (by simp <;> omega) _).setCell (p := ⟨w.heap.size + 1, 1, none⟩) (by simp <;> omega) _)
      go_wp2_with fail
      have k0 := HZ.out.cell 0
      have k1 := HZ.out.cell 1
      simp at k0 k1
      exact bodyPost_ret (v := .tuple #[.agg #[.int .i64 2, .bool nn], .bool ak]) (by simp [results, Tryz.results53, go_sem, k0, k1]) rfl ⟨by rw [HN.out], HZb.out⟩
    · have HN : Hid (combC 17 kind lk cs = ((2, (anyN cs)), allK cs (fstK cs))) := Lib.hid (by simp [combC])
      have HX := HA.out (fstK cs) wr HW.out.1
      have hf0 := HHd.out (by decide)
      obtain ⟨b, o, rfl, hblk, f0, hfl⟩ := hf0
      replace f0 := (HW.out.1.cell (p := ⟨b, o, none⟩) hblk).trans f0
      clear hblk
      clear HA HC HHd
      generalize allK cs (fstK cs) = ak at *
      generalize anyN cs = nn at *
      generalize fstK cs = fk at *
      go_wp2_with fail
      refine HX.mono ?_
      rintro x w2 ⟨rfl, rfl⟩
      clear HX
      have HZ := Lib.hid (((HW.out.2.2.set_ 0 (.int .i64 2)).set_ 1 (.bool nn)))
      have HZb : Hid (Below w.heap.size w ((w2.setCell ⟨w.heap.size + 1, 0, none⟩ (.int .i64 2)).setCell ⟨w.heap.size + 1, 1, none⟩ (.bool nn))) := Lib.hid ((HW.out.1.setCell (p := ⟨w.heap.size + 1, 0, none⟩) (by simp <;> omega) _).setCell (p := ⟨w.heap.size + 1, 1, none⟩) (by simp <;> omega) _)
      go_wp2_with fail
      have k0 := HZ.out.cell 0
      have k1 := HZ.out.cell 1
      simp at k0 k1
      exact bodyPost_ret (v := .tuple #[.agg #[.int .i64 2, .bool nn], .bool ak]) (by simp [results, Tryz.results53, go_sem, k0, k1]) rfl ⟨by rw [HN.out], HZb.out⟩
    · have HN : Hid (combC 18 kind lk cs = ((2, false), allK cs (fstK cs))) := Lib.hid (by simp [combC])
      have HX := HA.out (fstK cs) wr HW.out.1
      have hf0 := HHd.out (by decide)
      obtain ⟨b, o, rfl, hblk, f0, hfl⟩ := hf0
      replace f0 := (HW.out.1.cell (p := ⟨b, o, none⟩) hblk).trans f0
      clear hblk
      clear HA HC HHd
      generalize allK cs (fstK cs) = ak at *
      generalize anyN cs = nn at *
      generalize fstK cs = fk at *
      go_wp2_with fail
      refine HX.mono ?_
      rintro x w2 ⟨rfl, rfl⟩
      clear HX
      have HZ := Lib.hid (((HW.out.2.2.set_ 0 (.int .i64 2)).set_ 1 (.bool false)))
      have HZb : Hid (Below w.heap.size w ((w2.setCell ⟨w.heap.size + 1, 0, none⟩ (.int .i64 2)).setCell ⟨w.heap.size + 1, 1, none⟩ (.bool false))) := Lib.hid ((HW.out.1.setCell (p := ⟨w.heap.size + 1, 0, none⟩) (by simp <;> omega) _).setCell (p := ⟨w.heap.size + 1, 1, none⟩) (by simp <;> omega) _)
      go_wp2_with fail
      have k0 := HZ.out.cell 0
      have k1 := HZ.out.cell 1
      simp at k0 k1
      exact bodyPost_ret (v := .tuple #[.agg #[.int .i64 2, .bool false], .bool ak]) (by simp [results, Tryz.results53, go_sem, k0, k1]) rfl ⟨by rw [HN.out], HZb.out⟩
    · have HN : Hid (combC 19 kind lk cs = ((2, (anyN cs)), allK cs 2)) := Lib.hid (by simp [combC])
      have HX := HA.out 2 wr HW.out.1
      clear HA HC HHd
      generalize allK cs 2 = ak at *
      generalize anyN cs = nn at *
      go_wp2_with fail
      refine HX.mono ?_
      rintro x w2 ⟨rfl, rfl⟩
      clear HX
      have HZ := Lib.hid (((HW.out.2.2.set_ 0 (.int .i64 2)).set_ 1 (.bool nn)))
      have HZb : Hid (Below w.heap.size w ((w2.setCell ⟨w.heap.size + 1, 0, none⟩ (.int .i64 2)).setCell ⟨w.heap.size + 1, 1, none⟩ (.bool nn))) := Lib.hid ((HW.out.1.setCell (p := ⟨w.heap.size + 1, 0, none⟩) (by simp <;> omega) _).setCell (p := ⟨w.heap.size + 1, 1, none⟩) (by simp <;> omega) _)
      go_wp2_with fail
      have k0 := HZ.out.cell 0
      have k1 := HZ.out.cell 1
      simp at k0 k1
      exact bodyPost_ret (v := .tuple #[.agg #[.int .i64 2, .bool nn], .bool ak]) (by simp [results, Tryz.results53, go_sem, k0, k1]) rfl ⟨by rw [HN.out], HZb.out⟩
    · have HN : Hid (combC 20 kind lk cs = ((2, (anyN cs)), allK cs 2)) := Lib.hid (by simp [combC])
      have HX := HA.out 2 wr HW.out.1
      clear HA HC HHd
      generalize allK cs 2 = ak at *
      generalize anyN cs = nn at *
      go_wp2_with fail
      refine HX.mono ?_
      rintro x w2 ⟨rfl, rfl⟩
      clear HX
      have HZ := Lib.hid (((HW.out.2.2.set_ 0 (.int .i64 2)).set_ 1 (.bool nn)))
      have HZb : Hid (Below w.heap.size w ((w2.setCell ⟨w.heap.size + 1, 0, none⟩ (.int .i64 2)).setCell ⟨w.heap.size + 1, 1, none⟩ (.bool nn))) := Lib.hid ((HW.out.1.setCell (p := ⟨w.heap.size + 1, 0, none⟩) (by simp <;> omega) _).setCell (p := ⟨w.heap.size + 1, 1, none⟩) (by simp <;> omega) _)
      go_wp2_with fail
      have k0 := HZ.out.cell 0
      have k1 := HZ.out.cell 1
      simp at k0 k1
      exact bodyPost_ret (v := .tuple #[.agg #[.int .i64 2, .bool nn], .bool ak]) (by simp [results, Tryz.results53, go_sem, k0, k1]) rfl ⟨by rw [HN.out], HZb.out⟩
    · have HN : Hid (combC 21 kind lk cs = ((2, (anyN cs)), allK cs 2)) := Lib.hid (by simp [combC])
      have HX := HA.out 2 wr HW.out.1
      clear HA HC HHd
      generalize allK cs 2 = ak at *
      generalize anyN cs = nn at *
      go_wp2_with fail
      refine HX.mono ?_
      rintro x w2 ⟨rfl, rfl⟩
      clear HX
      have HZ := Lib.hid (((HW.out.2.2.set_ 0 (.int .i64 2)).set_ 1 (.bool nn)))
      have HZb : Hid (Below w.heap.size w ((w2.setCell ⟨w.heap.size + 1, 0, none⟩ (.int .i64 2)).setCell ⟨w.heap.size + 1, 1, none⟩ (.bool nn))) := Lib.hid ((HW.out.1.setCell (p := ⟨w.heap.size + 1, 0, none⟩) (by simp <;> omega) _).setCell (p := ⟨w.heap.size + 1, 1, none⟩) (by simp <;> omega) _)
      go_wp2_with fail
      have k0 := HZ.out.cell 0
      have k1 := HZ.out.cell 1
      simp at k0 k1
      exact bodyPost_ret (v := .tuple #[.agg #[.int .i64 2, .bool nn], .bool ak]) (by simp [results, Tryz.results53, go_sem, k0, k1]) rfl ⟨by rw [HN.out], HZb.out⟩
    · have HN : Hid (combC 22 kind lk cs = ((2, false), true)) := Lib.hid (by simp [combC])
      clear HA HC HHd
      have HZ := Lib.hid (((HW.out.2.2.set_ 0 (.int .i64 2)).set_ 1 (.bool false)))
      have HZb : Hid (Below w.heap.size w ((wr.setCell ⟨w.heap.size + 1, 0, none⟩ (.int .i64 2)).setCell ⟨w.heap.size + 1, 1, none⟩ (.bool false))) := Lib.hid ((HW.out.1.setCell (p := ⟨w.heap.size + 1, 0, none⟩) (by simp <;> omega) _).setCell (p := ⟨w.heap.size + 1, 1, none⟩) (by simp <;> omega) _)
      go_wp2_with fail
      have k0 := HZ.out.cell 0
      have k1 := HZ.out.cell 1
      simp at k0 k1
      exact bodyPost_ret (v := .tuple #[.agg #[.int .i64 2, .bool false], .bool true]) (by simp [results, Tryz.results53, go_sem, k0, k1]) rfl ⟨by rw [HN.out], HZb.out⟩
    · have HN : Hid (combC 23 kind lk cs = ((2, false), allK cs 2)) := Lib.hid (by simp [combC])
      have HX := HA.out 2 wr HW.out.1
      clear HA HC HHd
      generalize allK cs 2 = ak at *
      generalize anyN cs = nn at *
      go_wp2_with fail
      refine HX.mono ?_
      rintro x w2 ⟨rfl, rfl⟩
      clear HX
      have HZ := Lib.hid (((HW.out.2.2.set_ 0 (.int .i64 2)).set_ 1 (.bool false)))
      have HZb : Hid (Below w.heap.size w ((w2.setCell ⟨w.heap.size + 1, 0, none⟩ (.int .i64 2)).setCell ⟨w.heap.size + 1, 1, none⟩ (.bool false))) := Lib.hid ((HW.out.1.setCell (p := ⟨w.heap.size + 1, 0, none⟩) (by simp <;> omega) _).setCell (p := ⟨w.heap.size + 1, 1, none⟩) (by simp <;> omega) _)
      go_wp2_with fail
      have k0 := HZ.out.cell 0
      have k1 := HZ.out.cell 1
      simp at k0 k1
      exact bodyPost_ret (v := .tuple #[.agg #[.int .i64 2, .bool false], .bool ak]) (by simp [results, Tryz.results53, go_sem, k0, k1]) rfl ⟨by rw [HN.out], HZb.out⟩
    · have HQ := HC.out (HOdd.out rfl) wr HW.out.1
      have HN : Hid (combC 24 kind lk cs = ((((combC 24 kind lk cs).1.1), ((combC 24 kind lk cs).1.2)), (combC 24 kind lk cs).2)) := Lib.hid rfl
      clear HA HC HHd
      go_wp2_with fail
      refine HQ.mono ?_
      rintro x w2 ⟨rfl, hb2⟩
      replace HW : Hid (Below w.heap.size w w2 ∧ Blk w2 w.heap.size 29 #[.int .i64 24, .int .i64 n, .int .i64 m, .int .i64 kind, .int .i64 lk, .int .i64 ln, .string ls, .slice A an c, .slice R rn d] ∧ Blk w2 (w.heap.size + 1) 50 #[.int .i64 0, .bool false]) := Lib.hid ⟨thn HW.out.1 hb2, HW.out.2.1.below hb2 HW.out.2.1.lt, HW.out.2.2.below hb2 HW.out.2.2.lt⟩
      clear hb2 x0 x3 x4 z0 z1 fz0 fz1 hzl hal
      generalize hck : (combC 24 kind lk cs).1.1 = ck at *
      generalize hcn : (combC 24 kind lk cs).1.2 = cn at *
      generalize hcb : (combC 24 kind lk cs).2 = cb at *
      have hz := HW.out.2.2
      have z0 := hz.cell 0
      have z1 := hz.cell 1
      simp only [List.getElem?_toArray, List.getElem?_cons_succ, List.getElem?_cons_zero] at z0 z1
      have fz0 := hz.frozen 0
      have fz1 := hz.frozen 1
      have hzl := hz.lt
      clear hz HQ
      have HZ := Lib.hid (((HW.out.2.2.set_ 0 (.int .i64 ck)).set_ 1 (.bool cn)))
      have HZb : Hid (Below w.heap.size w ((w2.setCell ⟨w.heap.size + 1, 0, none⟩ (.int .i64 ck)).setCell ⟨w.heap.size + 1, 1, none⟩ (.bool cn))) := Lib.hid ((HW.out.1.setCell (p := ⟨w.heap.size + 1, 0, none⟩) (by simp <;> omega) _).setCell (p := ⟨w.heap.size + 1, 1, none⟩) (by simp <;> omega) _)
      go_wp2_with fail
      have k0 := HZ.out.cell 0
      have k1 := HZ.out.cell 1
      simp at k0 k1
      exact bodyPost_ret (v := .tuple #[.agg #[.int .i64 ck, .bool cn], .bool cb]) (by simp [results, Tryz.results53, go_sem, k0, k1]) rfl ⟨by rw [hck, hcn, hcb], HZb.out⟩
    · have hf0 := HHd.out (by decide)
      obtain ⟨b, o, rfl, hblk, f0, hfl⟩ := hf0
      have HF := Lib.hid (And.intro hblk f0)
      replace f0 := (HW.out.1.cell (p := ⟨b, o, none⟩) hblk).trans f0
      clear hblk
      have HN : Hid (combC 25 kind lk cs = ((fstK cs, cs.all Prod.snd), allK cs (fstK cs))) := Lib.hid (by simp [combC])
      replace HA := Lib.hid fun w1 hb => HA.out (fstK cs) w1 hb
      clear HC HHd
      generalize allK cs (fstK cs) = ak at *
      generalize fstK cs = fk at *
      go_wp2_with fail
      go_loopw [8, 9] (fun nv iv ws => ∃ i : Nat, i ≤ cs.length ∧ iv = .int .i64 i ∧ nv = .bool ((cs.take i).all Prod.snd) ∧ ws = wr) (fun _ iv _ => cs.length - (intOf iv).toNat)
      case atStart => exact ⟨0, Nat.zero_le _, rfl, by rw [List.take_zero]; rfl, rfl⟩
      case round =>
        obtain ⟨i, hi, rfl, rfl, rfl⟩ := hrel
        by_cases hlt : i < cs.length
        · have hlti : (i : Int) < (cs.length : Int) := by omega
          have hi0 : (0 : Int) ≤ (i : Int) := by omega
          obtain ⟨b', o', he, hb', c0, c1⟩ := (HH.out.1.below HW.out.1 HW.out.1.size).at_ hlt
          injection he with he
          injection he with he1 he2 _
          subst he1 he2
          have HT := Lib.hid (allN_take hlt)
          clear f0 c0
          generalize cs[i] = ci at *
          generalize hq : (cs.take i).all Prod.snd = q at *
          cases q
          · have HN : Hid ((cs.take (i + 1)).all Prod.snd = false) := Lib.hid (by rw [HT.out, Bool.false_and])
            clear HT hq
            go_wp2_with fail
            go_roundw
            case rel => exact ⟨i + 1, by omega, by go_num, by rw [HN.out], by first | rfl | trivial⟩
            case measure => simp [intOf]; omega
          · have HN : Hid ((cs.take (i + 1)).all Prod.snd = ci.2) := Lib.hid (by rw [HT.out, Bool.true_and])
            clear HT hq
            go_wp2_with fail
            go_roundw
            case rel => exact ⟨i + 1, by omega, by go_num, by rw [HN.out], by first | rfl | trivial⟩
            case measure => simp [intOf]; omega
        have hlf : decide ((i : Int) < (cs.length : Int)) = false := decide_eq_false (by omega)
        rw [List.take_of_length_le (by omega)]
        generalize cs.all Prod.snd = nn at *
        have HBd : Hid (Below w.heap.size w wr.drew) := Lib.hid ⟨HW.out.1.os, HW.out.1.tape, HW.out.1.output, HW.out.1.size, HW.out.1.block⟩
        have HXd := HA.out wr.drew HBd.out
        have HBs : Hid (Below w.heap.size w ((wr.drew.setCell ⟨w.heap.size + 1, 0, none⟩ (.int .i64 fk)).setCell ⟨w.heap.size + 1, 1, none⟩ (.bool nn))) := Lib.hid ((HBd.out.setCell (p := ⟨w.heap.size + 1, 0, none⟩) (by simp <;> omega) _).setCell (p := ⟨w.heap.size + 1, 1, none⟩) (by simp <;> omega) _)
        have HXs := HA.out _ HBs.out
        have HBw : Hid (Below w.heap.size w ((wr.setCell ⟨w.heap.size + 1, 0, none⟩ (.int .i64 fk)).setCell ⟨w.heap.size + 1, 1, none⟩ (.bool nn))) := Lib.hid ((HW.out.1.setCell (p := ⟨w.heap.size + 1, 0, none⟩) (by simp <;> omega) _).setCell (p := ⟨w.heap.size + 1, 1, none⟩) (by simp <;> omega) _)
        have HZ := Lib.hid (((HW.out.2.2.set_ 0 (.int .i64 fk)).set_ 1 (.bool nn)))
        clear HA
        go_upto_region 45 with fail
        have HK1 := Lib.hid ((HBs.out.cell (p := ⟨b, o, none⟩) HF.out.1).trans HF.out.2)
        have f0' : wr.drew.cell? ⟨b, o, none⟩ = some (.int .i64 fk) := f0
        have z0' : wr.drew.cell? ⟨w.heap.size + 1, 0, none⟩ = some (.int .i64 0) := z0
        have z1' : wr.drew.cell? ⟨w.heap.size + 1, 1, none⟩ = some (.bool false) := z1
        have fz0' : wr.drew.frozen? ⟨w.heap.size + 1, 0, none⟩ = false := fz0
        have fz1' : wr.drew.frozen? ⟨w.heap.size + 1, 1, none⟩ = false := fz1
        have hzl' : w.heap.size + 1 < wr.drew.heap.size := hzl
        clear x0 x3 x4 HBd
        have hfl2 : 0 < cs.length := by omega
        have hfl3 : cs ≠ [] := by rintro rfl; exact absurd hfl2 (by simp)
        have hfl4 : cs.length ≠ 0 := by omega
        have hfl5 : (0 : Int) ≤ 0 := by omega
        go_region_held3 (fun w' => w'.cell? ⟨b, o, none⟩ = some (.int .i64 fk)) (first | exact f0' | exact HK1.out) (first | (go_at_call 80; (first | refine HXd.mono ?_ | refine HXs.mono ?_); rintro x w2 ⟨rfl, hw2⟩; subst hw2))
        all_goals go_wp2_with fail
        all_goals
          have k0 := HZ.out.cell 0
          have k1 := HZ.out.cell 1
          simp at k0 k1
          exact bodyPost_ret (v := .tuple #[.agg #[.int .i64 fk, .bool nn], .bool ak]) (by simp [results, Tryz.results53, go_sem, k0, k1]) rfl ⟨by rw [HN.out], ⟨HBw.out.os, HBw.out.tape, HBw.out.output, HBw.out.size, HBw.out.block⟩⟩
end Go.Proofs.YtcbcncaoabablaaGreatDoor
namespace Go.Proofs.YtcbcncaoabablaaGreatDoor
open Go.RowKit Go.Deep

theorem kindC_out {cs : List Co} {e : E} (h : e.op = 2) : kindC cs e = ((0, false), false) := by unfold kindC; rw [if_pos h]
theorem kindC_col {cs : List Co} {e : E} {n : Nat} (h : e.op = 1) (hn : e.n = n) : kindC cs e = match cs[n]? with
    | none => ((0, false), false)
    | some c => (c, true) := by
  unfold kindC
  rw [if_neg (by omega), if_pos h, if_neg (by omega), hn]
  rfl
theorem kindC_none {cs : List Co} {e : E} (h1 : e.op ≠ 1) (h2 : e.op ≠ 2) (h : kindL cs e.args = none) : kindC cs e = ((0, false), false) := by unfold kindC; rw [if_neg h2, if_neg h1, h]
theorem kindC_some {cs : List Co} {e : E} {l : List Co} (h1 : e.op ≠ 1) (h2 : e.op ≠ 2) (h : kindL cs e.args = some l) : kindC cs e = combC e.op e.kind e.lit.k l := by unfold kindC; rw [if_neg h2, if_neg h1, h]
theorem many_odd {n : Nat} (h : manyB 24 n = true) : n % 2 = 1 := by
  simp [manyB] at h
  have h2 := h.1.2
  rw [Int.tmod_eq_emod_of_nonneg (by omega)] at h2
  omega
set_option maxHeartbeats 8000000 in
set_option maxRecDepth 100000 in
theorem RKind_any : ∀ (k q : Nat) (e : E) (A R : Option Addr) (c d : Nat) (cs : List Co) (Ac : Option Addr) (cc : Nat) (w : World), nodesE e < k → k ≤ 1000000 → shapedE q e = true → LOk w (Lo w.heap.size) A e.args → KReads w w.heap.size Ac cs → cs.length ≤ 1000 →
    Calls Tryz.prog 22 #[e.val A c R d, .slice Ac cs.length cc] w fun x w' => x = .returned (.tuple #[.agg #[.int .i64 (kindC cs e).1.1, .bool (kindC cs e).1.2], .bool (kindC cs e).2]) ∧ Below w.heap.size w w' := by
  intro k
  induction k with
  | zero => intro q e A R c d cs Ac cc w h; exact absurd h (Nat.not_lt_zero _)
  | succ k ih =>
    intro q e A R c d cs Ac cc w hk hk1 hsh hA hC hcl
    obtain ⟨q, rfl⟩ : ∃ q', q = q' + 1 := by
      cases q with
      | zero => rw [shapedE_zero] at hsh; cases hsh
      | succ q => exact ⟨q, rfl⟩
    rw [shapedE_succ, Bool.and_eq_true] at hsh
    have hnc := (node_cases hsh.1).2
    have HA := Lib.hid (And.intro hA (And.intro hC hsh.2))
    have hnE := nodesE_args e
    have hln := nodesL_len e.args
    have IH := Lib.hid ih
    clear ih hA hC hsh
    unfold E.val
    by_cases ho1 : e.op = 1
    · obtain ⟨n, hn⟩ : ∃ n : Nat, e.n = n := ⟨e.n.toNat, by omega⟩
      have HV : Hid (kindC cs e = _) := Lib.hid (kindC_col ho1 hn)
      have HB1 : Hid (KReads ((w.alloc (.cells #[.int .i64 1, .int .i64 (n : Nat), .int .i64 e.m, .int .i64 e.kind, .int .i64 e.lit.k, .int .i64 e.lit.n, .string e.lit.s, .slice A e.args.length c, .slice R e.rels.length d] 29)).alloc (.cells #[.int .i64 0, .bool false] 50)) ((w.alloc (.cells #[.int .i64 1, .int .i64 (n : Nat), .int .i64 e.m, .int .i64 e.kind, .int .i64 e.lit.k, .int .i64 e.lit.n, .string e.lit.s, .slice A e.args.length c, .slice R e.rels.length d] 29)).alloc (.cells #[.int .i64 0, .bool false] 50)).heap.size Ac cs) := Lib.hid (HA.out.2.1.below (al (al (Below.refl _ _) _) _) (by simp <;> omega))
      rw [ho1, hn]
      clear ho1 hn hnc hnE hln
      by_cases hlt : n < cs.length
      · have HR : Hid (kindC cs e = (cs[n], true)) := Lib.hid (by rw [HV.out, List.getElem?_eq_getElem hlt])
        obtain ⟨b, o, rfl, hblk, c0, c1⟩ := HB1.out.at_ hlt
        have hge : ¬ ((cs.length : Int) ≤ (n : Int)) := by omega
        have hge2 : ¬ (cs.length ≤ n) := by omega
        clear HV HB1
        generalize cs[n] = kc at *
        go_enter Tryz.func22, Tryz.ntmps22
        go_wp2_with fail
        exact bodyPost_ret (v := .tuple #[.agg #[.int .i64 kc.1, .bool kc.2], .bool true]) (by simp [results, Tryz.results22, go_sem]) rfl ⟨by rw [HR.out], al (al (Below.refl _ _) _) _⟩
      · have HR : Hid (kindC cs e = ((0, false), false)) := Lib.hid (by rw [HV.out, List.getElem?_eq_none (by omega)])
        have hge : ((cs.length : Int) ≤ (n : Int)) := by omega
        have hge2 : (cs.length ≤ n) := by omega
        clear HV HB1
        go_enter Tryz.func22, Tryz.ntmps22
        go_wp2_with fail
        exact bodyPost_ret (v := .tuple #[.agg #[.int .i64 0, .bool false], .bool false]) (by simp [results, Tryz.results22, go_sem]) rfl ⟨by rw [HR.out], al (al (Below.refl _ _) _) _⟩
    by_cases ho2 : e.op = 2
    · have HR : Hid (kindC cs e = ((0, false), false)) := Lib.hid (kindC_out ho2)
      rw [ho2]
      clear ho1 ho2 hnc hnE hln
      go_enter Tryz.func22, Tryz.ntmps22
      go_wp2_with fail
      exact bodyPost_ret (v := .tuple #[.agg #[.int .i64 0, .bool false], .bool false]) (by simp [results, Tryz.results22, go_sem]) rfl ⟨by rw [HR.out], al (al (Below.refl _ _) _) _⟩
    have HM : Hid (3 ≤ e.op ∧ e.op ≤ 25 ∧ (4 ≤ e.op → 0 < e.args.length) ∧ (e.op = 24 → e.args.length % 2 = 1) ∧ e.args.length ≤ 16) := Lib.hid (by
      rcases hnc with h | h | h | ⟨h4, h25, hm⟩
      · exact absurd h.1 ho1
      · exact absurd h.1 ho2
      · have hz := h.2.2.2.2
        rw [hz]
        exact ⟨by omega, by omega, fun _ => by omega, fun _ => by omega, by simp⟩
      · have := many_le hm
        exact ⟨by omega, h25, fun _ => by omega, fun h => by rw [h] at hm; exact many_odd hm, by omega⟩)
    have HNn := Lib.hid (kindC_none (cs := cs) ho1 ho2)
    have HCm : Hid (∀ (A1 : Option Addr) (w1 : World) (A2 : Option Addr) (c2 : Nat) (ks : List Co), kindL cs e.args = some ks → KReads w1 w1.heap.size A2 ks →
        Calls Tryz.prog 53 #[.agg #[.int .i64 e.op, .int .i64 e.n, .int .i64 e.m, .int .i64 e.kind, .int .i64 e.lit.k, .int .i64 e.lit.n, .string e.lit.s, .slice A1 e.args.length c, .slice R e.rels.length d], .slice A2 ks.length c2] w1 fun x w' => x = .returned (.tuple #[.agg #[.int .i64 (kindC cs e).1.1, .bool (kindC cs e).1.2], .bool (kindC cs e).2]) ∧ Below w1.heap.size w1 w') := Lib.hid fun A1 w1 A2 c2 ks hks hk2 => by
      have hl := kindL_len cs _ _ hks
      have hm := HM.out
      rw [kindC_some ho1 ho2 hks]
      exact CombinedR_any e.op e.n e.m e.kind e.lit.k e.lit.n e.lit.s A1 R _ _ c d ks A2 c2 w1 hk2 (by omega) hm.1 hm.2.1 (fun h => by rw [hl]; exact hm.2.2.1 h) (fun h => by rw [hl]; exact hm.2.2.2.1 h)
    have e1 : (e.op == 1) = false := beq_eq_false_iff_ne.2 ho1
    have e2 : (e.op == 2) = false := beq_eq_false_iff_ne.2 ho2
    obtain ⟨i0, hi, hz0, hz1, hz2⟩ := info_parts infoCo
    have H0 : Hid (Below w.heap.size w ((w.alloc (.cells #[.int .i64 e.op, .int .i64 e.n, .int .i64 e.m, .int .i64 e.kind, .int .i64 e.lit.k, .int .i64 e.lit.n, .string e.lit.s, .slice A e.args.length c, .slice R e.rels.length d] 29)).alloc (.cells #[.int .i64 0, .bool false] 50)) ∧ Blk ((w.alloc (.cells #[.int .i64 e.op, .int .i64 e.n, .int .i64 e.m, .int .i64 e.kind, .int .i64 e.lit.k, .int .i64 e.lit.n, .string e.lit.s, .slice A e.args.length c, .slice R e.rels.length d] 29)).alloc (.cells #[.int .i64 0, .bool false] 50)) w.heap.size 29 #[.int .i64 e.op, .int .i64 e.n, .int .i64 e.m, .int .i64 e.kind, .int .i64 e.lit.k, .int .i64 e.lit.n, .string e.lit.s, .slice A e.args.length c, .slice R e.rels.length d] ∧ Blk ((w.alloc (.cells #[.int .i64 e.op, .int .i64 e.n, .int .i64 e.m, .int .i64 e.kind, .int .i64 e.lit.k, .int .i64 e.lit.n, .string e.lit.s, .slice A e.args.length c, .slice R e.rels.length d] 29)).alloc (.cells #[.int .i64 0, .bool false] 50)) (w.heap.size + 1) 50 #[.int .i64 0, .bool false] ∧ ((w.alloc (.cells #[.int .i64 e.op, .int .i64 e.n, .int .i64 e.m, .int .i64 e.kind, .int .i64 e.lit.k, .int .i64 e.lit.n, .string e.lit.s, .slice A e.args.length c, .slice R e.rels.length d] 29)).alloc (.cells #[.int .i64 0, .bool false] 50)).ownsRow (w.heap.size + 1 + 1) 50 2 (.slice none 0 0) ([] : List Co).length (ccells ([] : List Co)) ∧ w.heap.size + 1 + 1 ≤ ((w.alloc (.cells #[.int .i64 e.op, .int .i64 e.n, .int .i64 e.m, .int .i64 e.kind, .int .i64 e.lit.k, .int .i64 e.lit.n, .string e.lit.s, .slice A e.args.length c, .slice R e.rels.length d] 29)).alloc (.cells #[.int .i64 0, .bool false] 50)).heap.size) := Lib.hid ⟨al (al (Below.refl _ _) _) _, (Blk.new w _ _).alloc _, Blk.new' (by simp), ⟨rfl, .inl ⟨rfl, rfl⟩⟩, by simp⟩
    have hl16 : e.args.length ≤ 16 := HM.out.2.2.2.2
    clear hnc ho1 ho2
    go_enter Tryz.func22, Tryz.ntmps22
    go_wp2_with fail
    go_loopw [6, 7] (fun v iv wr => ∃ (j : Nat) (ks : List Co), j ≤ e.args.length ∧ iv = .int .i64 j ∧ Hid (Below w.heap.size w wr ∧ Blk wr w.heap.size 29 #[.int .i64 e.op, .int .i64 e.n, .int .i64 e.m, .int .i64 e.kind, .int .i64 e.lit.k, .int .i64 e.lit.n, .string e.lit.s, .slice A e.args.length c, .slice R e.rels.length d] ∧ Blk wr (w.heap.size + 1) 50 #[.int .i64 0, .bool false] ∧ wr.ownsRow (w.heap.size + 1 + 1) 50 2 v ks.length (ccells ks) ∧ w.heap.size + 1 + 1 ≤ wr.heap.size) ∧ Hid (ks.length = j ∧ kindL cs (e.args.take j) = some ks)) (fun _ iv _ => e.args.length - (intOf iv).toNat)
    case atStart => exact ⟨0, [], Nat.zero_le _, rfl, H0, Lib.hid ⟨rfl, by simp [kindL]⟩⟩
    case round =>
      clear H0
      obtain ⟨j, ks, hj, rfl, HW, HK⟩ := hrel
      have a0 := HW.out.2.1
      have y0 := a0.cell 0
      have y1 := a0.cell 1
      have y2 := a0.cell 2
      have y3 := a0.cell 3
      have y4 := a0.cell 4
      have y5 := a0.cell 5
      have y6 := a0.cell 6
      have y7 := a0.cell 7
      have y8 := a0.cell 8
      simp only [List.getElem?_toArray, List.getElem?_cons_succ, List.getElem?_cons_zero] at y0 y1 y2 y3 y4 y5 y6 y7 y8
      clear a0
      by_cases hlt : j < e.args.length
      · have hlti : (j : Int) < (e.args.length : Int) := by omega
        have hj0 : (0 : Int) ≤ (j : Int) := by omega
        obtain ⟨b, o, rfl, hb, he⟩ := (HA.out.1.below HW.out.1 HW.out.1.size).at_ hlt
        obtain ⟨z0, z1, z2, z3, z4, z5, z6, ⟨A', c', z7, z8⟩, R', d', z9, z10⟩ := EOk.mk_.1 he
        have x0 : wr.cell? ⟨b, o + j * 9, none⟩ = some (.int .i64 e.args[j].op) := z0
        have x1 : wr.cell? ⟨b, o + j * 9 + 1, none⟩ = some (.int .i64 e.args[j].n) := z1
        have x2 : wr.cell? ⟨b, o + j * 9 + 2, none⟩ = some (.int .i64 e.args[j].m) := z2
        have x3 : wr.cell? ⟨b, o + j * 9 + 3, none⟩ = some (.int .i64 e.args[j].kind) := z3
        have x4 : wr.cell? ⟨b, o + j * 9 + 4, none⟩ = some (.int .i64 e.args[j].lit.k) := z4
        have x5 : wr.cell? ⟨b, o + j * 9 + 5, none⟩ = some (.int .i64 e.args[j].lit.n) := z5
        have x6 : wr.cell? ⟨b, o + j * 9 + 6, none⟩ = some (.string e.args[j].lit.s) := z6
        have x7 : wr.cell? ⟨b, o + j * 9 + 7, none⟩ = some ((.slice A' e.args[j].args.length c')) := z7
        have x8 : wr.cell? ⟨b, o + j * 9 + 8, none⟩ = some ((.slice R' e.args[j].rels.length d')) := z9
        have hmm := nodesL_mem (List.getElem_mem hlt)
        have HQ : Hid (Calls Tryz.prog 22 #[e.args[j].val A' c' R' d', .slice Ac cs.length cc] wr fun x w' => x = .returned (.tuple #[.agg #[.int .i64 (kindC cs e.args[j]).1.1, .bool (kindC cs e.args[j]).1.2], .bool (kindC cs e.args[j]).2]) ∧ Below wr.heap.size wr w') := Lib.hid
          (IH.out q e.args[j] A' R' c' d' cs Ac cc wr (by omega) (by omega) (shapedL_mem HA.out.2.2 _ (List.getElem_mem hlt)) z8 (HA.out.2.1.below HW.out.1 HW.out.1.size) hcl)
        have HTk := Lib.hid (kindL_take cs e.args j hlt ks)
        have HSp := Lib.hid (kindL_stop cs e.args j hlt)
        have HKC := Lib.hid (kindC_E cs e.args[j])
        clear z0 z1 z2 z3 z4 z5 z6 z7 z8 z9 z10 he hmm
        generalize kindC cs e.args[j] = kj at *
        generalize kindE cs e.args[j] = kk at *
        obtain ⟨⟨kc, kn⟩, kb⟩ := kj
        generalize e.args[j] = ej at *
        unfold E.val at HQ
        cases kb
        · have HR : Hid (kindC cs e = ((0, false), false)) := Lib.hid (HNn.out (HSp.out HKC.out))
          clear HTk HSp HKC
          go_wp2_with fail
          refine HQ.out.mono ?_
          rintro x w3 ⟨rfl, hb3⟩
          have H3 : Hid (Below w.heap.size w w3 ∧ Blk w3 (w.heap.size + 1) 50 #[.int .i64 0, .bool false]) := Lib.hid ⟨thn HW.out.1 hb3, HW.out.2.2.1.below hb3 HW.out.2.2.1.lt⟩
          clear hb3 x0 x1 x2 x3 x4 x5 x6 x7 x8 y0 y1 y2 y3 y4 y5 y6 y7 y8
          have hrb := H3.out.2.alloc (.cells #[.int .i64 kc, .bool kn] 50)
          have f0 := hrb.frozen 0
          have f1 := hrb.frozen 1
          have d0 := hrb.cell 0
          have d1 := hrb.cell 1
          have hrl := hrb.lt
          simp only [List.getElem?_toArray, List.getElem?_cons_succ, List.getElem?_cons_zero] at d0 d1
          go_wp2_with fail
          have HB := (hrb.set_ 0 (.int .i64 0)).set_ 1 (.bool false)
          have k0 := HB.cell 0
          have k1 := HB.cell 1
          simp at k0 k1
          exact bodyPost_ret (v := .tuple #[.agg #[.int .i64 0, .bool false], .bool false]) (by simp [results, Tryz.results22, go_sem, k0, k1]) rfl ⟨by rw [HR.out], ((al H3.out.1 (.cells #[.int .i64 kc, .bool kn] 50)).setCell (p := ⟨w.heap.size + 1, 0, none⟩) (by simp <;> omega) _).setCell (p := ⟨w.heap.size + 1, 1, none⟩) (by simp <;> omega) _⟩
        · have HN : Hid (kindL cs (e.args.take (j + 1)) = some (ks ++ [(kc, kn)])) := Lib.hid (HTk.out (kc, kn) HK.out.2 HKC.out)
          have hks := HK.out.1
          clear HTk HSp HKC
          have hb1 : ks.length + 1 ≤ maxLen := by unfold maxLen; omega
          have hb2 : (ks.length + 1) * 16 ≤ 140737488355328 := by omega
          go_wp2_with fail
          refine HQ.out.mono ?_
          rintro x w3 ⟨rfl, hb3⟩
          have H3 : Hid (Below w.heap.size w w3 ∧ Blk w3 w.heap.size 29 #[.int .i64 e.op, .int .i64 e.n, .int .i64 e.m, .int .i64 e.kind, .int .i64 e.lit.k, .int .i64 e.lit.n, .string e.lit.s, .slice (some ⟨b, o, none⟩) e.args.length c, .slice R e.rels.length d] ∧ Blk w3 (w.heap.size + 1) 50 #[.int .i64 0, .bool false] ∧ w3.ownsRow (w.heap.size + 1 + 1) 50 2 u6 ks.length (ccells ks) ∧ w.heap.size + 1 + 1 ≤ w3.heap.size) := Lib.hid ⟨thn HW.out.1 hb3, HW.out.2.1.below hb3 HW.out.2.1.lt, HW.out.2.2.1.below hb3 HW.out.2.2.1.lt, own_below HW.out.2.2.2.1 hb3, Nat.le_trans HW.out.2.2.2.2 hb3.size⟩
          clear hb3 x0 x1 x2 x3 x4 x5 x6 x7 x8 y0 y1 y2 y3 y4 y5 y6 y7 y8
          have hRd : ∀ ob, Reads ((w3.alloc ob).alloc (.cells #[.int .i64 kc, .bool kn] 50)) (w3.heap.size + 1 + 1) 2 (some ⟨w3.heap.size + 1, 0, none⟩) 1 (ccells [(kc, kn)]) := fun ob => Reads.col (Blk.new' (g := w3.heap.size + 1) (by simp)) (Nat.lt_succ_self _)
          have hsz3 := H3.out.2.2.2.2
          go_wp2_with (at_builtin; refine wpList_append_any _ rfl (.tmp 48) (.tmp 50) 47 rfl (w.heap.size + 1 + 1) 50 i0 (.agg #[.int .i64 0, .bool false]) 2 16 Tryz.underlying47 hi hz0 hz1 hz2 rfl (by decide) _ _ _ rfl ((H3.out.2.2.2.1.alloc _).alloc _) (w3.heap.size + 1 + 1) _ 1 1 (ccells [(kc, kn)]) rfl (hRd _) (ccells_one _) hb1 hb2 (by simp; omega) ?_)
          intro v' w4 hown4 hg4 _
          have HF : Hid (Below w.heap.size w w4 ∧ Blk w4 w.heap.size 29 #[.int .i64 e.op, .int .i64 e.n, .int .i64 e.m, .int .i64 e.kind, .int .i64 e.lit.k, .int .i64 e.lit.n, .string e.lit.s, .slice (some ⟨b, o, none⟩) e.args.length c, .slice R e.rels.length d] ∧ Blk w4 (w.heap.size + 1) 50 #[.int .i64 0, .bool false] ∧ w4.ownsRow (w.heap.size + 1 + 1) 50 2 v' (ks ++ [(kc, kn)]).length (ccells (ks ++ [(kc, kn)])) ∧ w.heap.size + 1 + 1 ≤ w4.heap.size) := Lib.hid (by
            have b4 : Below (w.heap.size + 1 + 1) w3 w4 := ((al (al (Below.refl _ _) _) _).mono hsz3 |>.grown hg4 (by simp <;> omega) (own_base H3.out.2.2.2.1))
            exact ⟨H3.out.1.trans (b4.mono (by omega)), H3.out.2.1.below b4 (by omega), H3.out.2.2.1.below b4 (by omega), by rw [ccells_append, List.length_append, hks]; exact hown4, Nat.le_trans hsz3 b4.size⟩)
          clear hown4 hg4 hRd hb1 hb2 hsz3
          go_wp2_with fail
          first | exact ⟨⟨j + 1, ks ++ [(kc, kn)], by omega, by go_num, HF, Lib.hid ⟨by simp [hks], HN.out⟩⟩, by simp [intOf]; omega⟩ | (go_roundw; case rel => exact ⟨j + 1, ks ++ [(kc, kn)], by omega, by go_num, HF, Lib.hid ⟨by simp [hks], HN.out⟩⟩; case measure => simp [intOf]; omega)
      · have hlf : decide ((j : Int) < (e.args.length : Int)) = false := decide_eq_false (by omega)
        have hkl : kindL cs e.args = some ks := by have := HK.out.2; rwa [List.take_of_length_le (by omega)] at this
        obtain ⟨A2, c2, rfl, hk2⟩ := KReads.own HW.out.2.2.2.1
        have HQ := HCm.out A wr A2 c2 ks hkl hk2
        have HR : Hid (kindC cs e = (((kindC cs e).1.1, (kindC cs e).1.2), (kindC cs e).2)) := Lib.hid rfl
        clear hk2 hkl
        generalize hck : (kindC cs e).1.1 = ck at *
        generalize hcn : (kindC cs e).1.2 = cn at *
        generalize hcb : (kindC cs e).2 = cb at *
        go_wp2_with fail
        refine HQ.mono ?_
        rintro x w3 ⟨rfl, hb3⟩
        have H3 : Hid (Below w.heap.size w w3 ∧ Blk w3 (w.heap.size + 1) 50 #[.int .i64 0, .bool false]) := Lib.hid ⟨thn HW.out.1 hb3, HW.out.2.2.1.below hb3 HW.out.2.2.1.lt⟩
        clear hb3 y0 y1 y2 y3 y4 y5 y6 y7 y8 HQ
        have hrb := H3.out.2
        have f0 := hrb.frozen 0
        have f1 := hrb.frozen 1
        have d0 := hrb.cell 0
        have d1 := hrb.cell 1
        have hrl := hrb.lt
        simp only [List.getElem?_toArray, List.getElem?_cons_succ, List.getElem?_cons_zero] at d0 d1
        go_wp2_with fail
        have HB := (hrb.set_ 0 (.int .i64 ck)).set_ 1 (.bool cn)
        have k0 := HB.cell 0
        have k1 := HB.cell 1
        simp at k0 k1
        exact bodyPost_ret (v := .tuple #[.agg #[.int .i64 ck, .bool cn], .bool cb]) (by simp [results, Tryz.results22, go_sem, k0, k1]) rfl ⟨by rw [hck, hcn, hcb], (H3.out.1.setCell (p := ⟨w.heap.size + 1, 0, none⟩) (by simp <;> omega) _).setCell (p := ⟨w.heap.size + 1, 1, none⟩) (by simp <;> omega) _⟩
end Go.Proofs.YtcbcncaoabablaaGreatDoor
