/-
  THE WALK of ScalarJoins.
-/
import Derived.Test.YtdiehgfldndgbaaGreatDoorCuA
import Derived.Test.YtdiehgfldndgbaaGreatDoorJoR
import Derived.Test.YtdiehgfldndgbaaGreatDoorGA07
import Derived.Test.YtdiehgfldndgbaaGreatDoorGA08
import Derived.Test.YtdiehgfldndgbaaGreatDoorSam
import Derived.Test.YtdiehgfldndgbaaGreatDoorGA25
namespace Go.Proofs.YtdiehgfldndgbaaGreatDoor
open Go.RowKit Go.Deep

theorem all_take_succ {l : List E} {j : Nat} (h : j < l.length) (h1 : (l.take j).all formE = true) (h2 : formE l[j] = true) : (l.take (j + 1)).all formE = true := by
  rw [List.take_succ_eq_append_getElem h, List.all_append, h1]
  simp [h2]
set_option maxHeartbeats 16000000 in
set_option maxRecDepth 100000 in
theorem ScalarJoins_any (l : List E) (A : Option Addr) (c : Nat) (w : World) (hG : GE w) (hS : GS w) (hI : LIn l) (hA : LOk w (Lo w.heap.size) A l) :
    Calls Tryz.prog 3 #[.slice A l.length c] w fun x w' => x = .returned (.bool true) ∧ Below w.heap.size w w' := by
  have HCa := Lib.hid (CutAll_any 60 l A c w (by decide) hI hA)
  have HKs := Lib.hid (And.intro (cuts_len 60 l) (And.intro (cuts_nodes 60 l) (cuts_in (most := 60) hI)))
  generalize cutsE 60 l = ks at *
  have HG : Hid (∀ W, Below w.heap.size w W → GE W ∧ GS W) := Lib.hid fun W hb => ⟨hG.thn hb, hS.thn hb⟩
  have HAw : Hid (∀ W, Below w.heap.size w W → Calls Tryz.prog 17 #[] W fun x w2 => x = .returned (.bool true) ∧ Below W.heap.size W w2) := Lib.hid fun W hb => awakeE_any W (HG.out W hb).1 (HG.out W hb).2
  clear hG hS hI hA
  go_enter Tryz.func3, Tryz.ntmps3
  go_wp2_with fail
  refine HCa.out.mono ?_
  rintro x w2 ⟨A1, c1, rfl, hc1, hc2, hL, hb2⟩
  have HCc := Lib.hid (And.intro hc1 hc2)
  have H2 : Hid (Below w.heap.size w w2 ∧ LOk w2 (Lo w2.heap.size) A1 ks) := Lib.hid ⟨hb2, hL.kept (fun _ _ => rfl) fun b hb => hb.2⟩
  have HJ := Lib.hid (JoinedP_any ks A1 c1 w2 (HG.out w2 H2.out.1).2 HKs.out.1 hc1 hc2 HKs.out.2.2 HKs.out.2.1 H2.out.2)
  clear hc1 hc2 hL hb2 HCa
  go_wp2_with fail
  refine HJ.out.mono ?_
  rintro x w3 ⟨h, hh, rfl, hb3, hok⟩
  obtain ⟨g4, hg4⟩ : ∃ g, g = w3.heap.size := ⟨_, rfl⟩
  have H4 : Hid (Below w.heap.size w (w3.alloc (.cells #[.int .i64 h.e.op, .int .i64 h.e.n, .int .i64 h.e.m, .int .i64 h.e.kind, .int .i64 h.e.lit.k, .int .i64 h.e.lit.n, .string h.e.lit.s, .slice h.A h.e.args.length h.c, .slice h.R h.e.rels.length h.d] 30)) ∧ Blk (w3.alloc (.cells #[.int .i64 h.e.op, .int .i64 h.e.n, .int .i64 h.e.m, .int .i64 h.e.kind, .int .i64 h.e.lit.k, .int .i64 h.e.lit.n, .string h.e.lit.s, .slice h.A h.e.args.length h.c, .slice h.R h.e.rels.length h.d] 30)) g4 30 #[.int .i64 h.e.op, .int .i64 h.e.n, .int .i64 h.e.m, .int .i64 h.e.kind, .int .i64 h.e.lit.k, .int .i64 h.e.lit.n, .string h.e.lit.s, .slice h.A h.e.args.length h.c, .slice h.R h.e.rels.length h.d] ∧ LOk (w3.alloc (.cells #[.int .i64 h.e.op, .int .i64 h.e.n, .int .i64 h.e.m, .int .i64 h.e.kind, .int .i64 h.e.lit.k, .int .i64 h.e.lit.n, .string h.e.lit.s, .slice h.A h.e.args.length h.c, .slice h.R h.e.rels.length h.d] 30)) (Lo (w3.alloc (.cells #[.int .i64 h.e.op, .int .i64 h.e.n, .int .i64 h.e.m, .int .i64 h.e.kind, .int .i64 h.e.lit.k, .int .i64 h.e.lit.n, .string h.e.lit.s, .slice h.A h.e.args.length h.c, .slice h.R h.e.rels.length h.d] 30)).heap.size) A1 ks ∧ h.ok (w3.alloc (.cells #[.int .i64 h.e.op, .int .i64 h.e.n, .int .i64 h.e.m, .int .i64 h.e.kind, .int .i64 h.e.lit.k, .int .i64 h.e.lit.n, .string h.e.lit.s, .slice h.A h.e.args.length h.c, .slice h.R h.e.rels.length h.d] 30)) (Lo (w3.alloc (.cells #[.int .i64 h.e.op, .int .i64 h.e.n, .int .i64 h.e.m, .int .i64 h.e.kind, .int .i64 h.e.lit.k, .int .i64 h.e.lit.n, .string h.e.lit.s, .slice h.A h.e.args.length h.c, .slice h.R h.e.rels.length h.d] 30)).heap.size)) := Lib.hid
    ⟨al (thn H2.out.1 hb3) _, by rw [hg4]; exact Blk.new _ _ _, H2.out.2.below (al hb3 _) (al hb3 (.cells #[.int .i64 h.e.op, .int .i64 h.e.n, .int .i64 h.e.m, .int .i64 h.e.kind, .int .i64 h.e.lit.k, .int .i64 h.e.lit.n, .string h.e.lit.s, .slice h.A h.e.args.length h.c, .slice h.R h.e.rels.length h.d] 30)).size, hok.kept (fun b hb => Below.heap_alloc w3 _ b hb) fun b hb => by have : b < w3.heap.size := hb; simp; omega⟩
  have HHe := Lib.hid hh
  clear hh hb3 hok HJ H2
  unfold HE.val E.val
  generalize hfl : jnFl ks = fl at *
  have HFl := Lib.hid hfl
  clear hfl
  go_upto_region 3 with fail
  change Code.wp _ _ _ _ (w3.alloc (.cells #[.int .i64 h.e.op, .int .i64 h.e.n, .int .i64 h.e.m, .int .i64 h.e.kind, .int .i64 h.e.lit.k, .int .i64 h.e.lit.n, .string h.e.lit.s, .slice h.A h.e.args.length h.c, .slice h.R h.e.rels.length h.d] 30))
  rw [← hg4]
  clear hg4
  generalize (w3.alloc (.cells #[.int .i64 h.e.op, .int .i64 h.e.n, .int .i64 h.e.m, .int .i64 h.e.kind, .int .i64 h.e.lit.k, .int .i64 h.e.lit.n, .string h.e.lit.s, .slice h.A h.e.args.length h.c, .slice h.R h.e.rels.length h.d] 30)) = w4 at *
  go_wp2_with fail
  go_loopw [6] (fun iv wr => ∃ j : Nat, j ≤ ks.length ∧ iv = .int .i64 j ∧ Hid (Below w4.heap.size w4 wr) ∧ Hid ((ks.take j).all formE = true)) (fun iv _ => ks.length - (intOf iv).toNat)
  case atStart => exact ⟨0, Nat.zero_le _, rfl, Below.refl _ _, Lib.hid rfl⟩
  case round =>
    obtain ⟨j, hj, rfl, HB, HT⟩ := hrel
    have hk60 := HKs.out.1
    by_cases hlt : j < ks.length
    · have hlti : (j : Int) < (ks.length : Int) := by omega
      have hj0 : (0 : Int) ≤ (j : Int) := by omega
      obtain ⟨b, o, A', c', R', d', rfl, hZ, hLj, hRj⟩ := (H4.out.2.2.1.below HB.out HB.out.size).eat hlt
      have hmm := nodesL_mem (List.getElem_mem hlt)
      have HF := Lib.hid (Form_any ks[j] A' R' c' d' wr (by have := HKs.out.2.1; omega) (fitX_of _ (HKs.out.2.2 _ (List.getElem_mem hlt)) (by have := HKs.out.2.1; omega)) hLj)
      have x0 := hZ.c0
      have x1 := hZ.c1
      have x2 := hZ.c2
      have x3 := hZ.c3
      have x4 := hZ.c4
      have x5 := hZ.c5
      have x6 := hZ.c6
      have x7 := hZ.c7
      have x8 := hZ.c8
      cases hq : formE ks[j] with
      | true =>
        have HN := Lib.hid (all_take_succ hlt HT.out hq)
        rw [hq] at HF
        unfold E.val at HF
        clear hZ hLj hRj hmm hq
        generalize ks[j] = ej at *
        go_wp2_with fail
        refine HF.out.mono ?_
        rintro x w5 ⟨rfl, hb5⟩
        have H5 := Lib.hid (thn HB.out hb5)
        clear hb5
        go_wp2_with fail
        first | exact ⟨⟨j + 1, by omega, by go_num, H5, HN⟩, by simp [intOf]; omega⟩ | (go_roundw; case rel => exact ⟨j + 1, by omega, by go_num, H5, HN⟩; case measure => simp [intOf]; omega)
      | false =>
        have hall : ks.all formE = false := List.all_eq_false.2 ⟨_, List.getElem_mem hlt, by simp [hq]⟩
        rw [hq] at HF
        unfold E.val at HF
        clear hZ hLj hRj hmm hq
        generalize ks[j] = ej at *
        have hz : h.e = zE ∧ fl = 30 := by rw [HHe.out, ← HFl.out]; unfold jnS jnFl; rw [hall]; exact ⟨rfl, rfl⟩
        obtain ⟨he, hfl⟩ := hz
        have HBr : Hid (∀ W, Calls Tryz.prog 16 #[.agg #[.int .i64 h.e.op, .int .i64 h.e.n, .int .i64 h.e.m, .int .i64 h.e.kind, .int .i64 h.e.lit.k, .int .i64 h.e.lit.n, .string h.e.lit.s, .slice h.A h.e.args.length h.c, .slice h.R h.e.rels.length h.d]] W fun x w2 => x = .returned (.bool true) ∧ Below W.heap.size W w2) := Lib.hid fun W => by rw [he]; exact bare0_any h.A h.R h.c h.d W
        rw [hfl]
        clear he
        go_wp2_with fail
        refine HF.out.mono ?_
        rintro x w5 ⟨rfl, hb5⟩
        have H5 : Hid (Below w.heap.size w w5 ∧ Blk w5 g4 30 #[.int .i64 h.e.op, .int .i64 h.e.n, .int .i64 h.e.m, .int .i64 h.e.kind, .int .i64 h.e.lit.k, .int .i64 h.e.lit.n, .string h.e.lit.s, .slice h.A h.e.args.length h.c, .slice h.R h.e.rels.length h.d]) := Lib.hid ⟨thn (thn H4.out.1 HB.out) hb5, H4.out.2.1.below (thn HB.out hb5) H4.out.2.1.lt⟩
        clear hb5 x0 x1 x2 x3 x4 x5 x6 x7 x8
        have hq := H5.out.2
        have x0 := hq.cell 0
        have x1 := hq.cell 1
        have x2 := hq.cell 2
        have x3 := hq.cell 3
        have x4 := hq.cell 4
        have x5 := hq.cell 5
        have x6 := hq.cell 6
        have x7 := hq.cell 7
        have x8 := hq.cell 8
        simp only [List.getElem?_toArray, List.getElem?_cons_succ, List.getElem?_cons_zero] at x0 x1 x2 x3 x4 x5 x6 x7 x8
        clear hq
        go_wp2_with fail
        refine (HBr.out w5).mono ?_
        rintro x w6 ⟨rfl, hb6⟩
        have H6 := Lib.hid (thn H5.out.1 hb6)
        clear hb6
        go_wp2_with fail
        refine (HAw.out w6 H6.out).mono ?_
        rintro x w7 ⟨rfl, hb7⟩
        have H7 := Lib.hid (thn H6.out hb7)
        clear hb7
        go_wp2_with fail
        go_ret
        exact ⟨rfl, H7.out⟩
    · have hlf : decide ((j : Int) < (ks.length : Int)) = false := decide_eq_false (by omega)
      have hall : ks.all formE = true := by have h := HT.out; rwa [List.take_of_length_le (by omega)] at h
      have hjn := jn_nodes (ks.length + 1) ks (Nat.lt_succ_self _)
      have HWt := Lib.hid (RJoined_any wr.heap.size (ks.length + 1) ks A1 c1 wr (Nat.lt_succ_self _) (by have := HKs.out.1; omega) HCc.out.1 HCc.out.2 (Nat.le_refl _) (H4.out.2.2.1.below HB.out HB.out.size))
      go_wp2_with fail
      refine HWt.out.mono ?_
      rintro x w5 ⟨q, hqe, rfl, hb5, hqok⟩
      obtain ⟨g7, hg7⟩ : ∃ g, g = w5.heap.size := ⟨_, rfl⟩
      have hbq : Below wr.heap.size wr (w5.alloc (.cells #[.int .i64 q.e.op, .int .i64 q.e.n, .int .i64 q.e.m, .int .i64 q.e.kind, .int .i64 q.e.lit.k, .int .i64 q.e.lit.n, .string q.e.lit.s, .slice q.A q.e.args.length q.c, .slice q.R q.e.rels.length q.d] 30)) := al hb5 _
      have H6 : Hid (Below w.heap.size w (w5.alloc (.cells #[.int .i64 q.e.op, .int .i64 q.e.n, .int .i64 q.e.m, .int .i64 q.e.kind, .int .i64 q.e.lit.k, .int .i64 q.e.lit.n, .string q.e.lit.s, .slice q.A q.e.args.length q.c, .slice q.R q.e.rels.length q.d] 30)) ∧ Blk (w5.alloc (.cells #[.int .i64 q.e.op, .int .i64 q.e.n, .int .i64 q.e.m, .int .i64 q.e.kind, .int .i64 q.e.lit.k, .int .i64 q.e.lit.n, .string q.e.lit.s, .slice q.A q.e.args.length q.c, .slice q.R q.e.rels.length q.d] 30)) g4 30 #[.int .i64 h.e.op, .int .i64 h.e.n, .int .i64 h.e.m, .int .i64 h.e.kind, .int .i64 h.e.lit.k, .int .i64 h.e.lit.n, .string h.e.lit.s, .slice h.A h.e.args.length h.c, .slice h.R h.e.rels.length h.d] ∧ Blk (w5.alloc (.cells #[.int .i64 q.e.op, .int .i64 q.e.n, .int .i64 q.e.m, .int .i64 q.e.kind, .int .i64 q.e.lit.k, .int .i64 q.e.lit.n, .string q.e.lit.s, .slice q.A q.e.args.length q.c, .slice q.R q.e.rels.length q.d] 30)) g7 30 #[.int .i64 q.e.op, .int .i64 q.e.n, .int .i64 q.e.m, .int .i64 q.e.kind, .int .i64 q.e.lit.k, .int .i64 q.e.lit.n, .string q.e.lit.s, .slice q.A q.e.args.length q.c, .slice q.R q.e.rels.length q.d] ∧ EHas (w5.alloc (.cells #[.int .i64 q.e.op, .int .i64 q.e.n, .int .i64 q.e.m, .int .i64 q.e.kind, .int .i64 q.e.lit.k, .int .i64 q.e.lit.n, .string q.e.lit.s, .slice q.A q.e.args.length q.c, .slice q.R q.e.rels.length q.d] 30)) q.e q.A q.R ∧ h.ok (w5.alloc (.cells #[.int .i64 q.e.op, .int .i64 q.e.n, .int .i64 q.e.m, .int .i64 q.e.kind, .int .i64 q.e.lit.k, .int .i64 q.e.lit.n, .string q.e.lit.s, .slice q.A q.e.args.length q.c, .slice q.R q.e.rels.length q.d] 30)) (Lo (w5.alloc (.cells #[.int .i64 q.e.op, .int .i64 q.e.n, .int .i64 q.e.m, .int .i64 q.e.kind, .int .i64 q.e.lit.k, .int .i64 q.e.lit.n, .string q.e.lit.s, .slice q.A q.e.args.length q.c, .slice q.R q.e.rels.length q.d] 30)).heap.size)) := Lib.hid
        ⟨thn (thn H4.out.1 HB.out) hbq, H4.out.2.1.below (thn HB.out hbq) H4.out.2.1.lt, by rw [hg7]; exact Blk.new _ _ _, EHas.of (c := q.c) (d := q.d) (hqok.kept (P' := Lo (w5.alloc (.cells #[.int .i64 q.e.op, .int .i64 q.e.n, .int .i64 q.e.m, .int .i64 q.e.kind, .int .i64 q.e.lit.k, .int .i64 q.e.lit.n, .string q.e.lit.s, .slice q.A q.e.args.length q.c, .slice q.R q.e.rels.length q.d] 30)).heap.size) (fun b hb => Below.heap_alloc w5 _ b hb.2) fun b hb => by have := hb.2; simp; omega) (fun b h => h) (by rw [hqe]; exact jn_inn _ ks (Nat.lt_succ_self _) (LIn.of HKs.out.2.2)) (by rw [hqe]; have := HKs.out.1; have := HKs.out.2.1; omega), H4.out.2.2.2.kept (fun b hb => (thn HB.out hbq).block b hb) fun b hb => Nat.lt_of_lt_of_le hb (thn HB.out hbq).size⟩
      have HQe := Lib.hid hqe
      clear hqe hb5 hqok hbq HWt
      unfold HE.val E.val
      go_upto_region 9 with fail
      change Code.wp _ _ _ _ (w5.alloc (.cells #[.int .i64 q.e.op, .int .i64 q.e.n, .int .i64 q.e.m, .int .i64 q.e.kind, .int .i64 q.e.lit.k, .int .i64 q.e.lit.n, .string q.e.lit.s, .slice q.A q.e.args.length q.c, .slice q.R q.e.rels.length q.d] 30))
      rw [← hg7]
      clear hg7
      generalize (w5.alloc (.cells #[.int .i64 q.e.op, .int .i64 q.e.n, .int .i64 q.e.m, .int .i64 q.e.kind, .int .i64 q.e.lit.k, .int .i64 q.e.lit.n, .string q.e.lit.s, .slice q.A q.e.args.length q.c, .slice q.R q.e.rels.length q.d] 30)) = w6 at *
      have HF := Lib.hid (Form_any q.e q.A q.R q.c q.d w6 H6.out.2.2.2.1.n H6.out.2.2.2.1.f H6.out.2.2.2.1.a)
      have hq := H6.out.2.2.1
      have x0 := hq.cell 0
      have x1 := hq.cell 1
      have x2 := hq.cell 2
      have x3 := hq.cell 3
      have x4 := hq.cell 4
      have x5 := hq.cell 5
      have x6 := hq.cell 6
      have x7 := hq.cell 7
      have x8 := hq.cell 8
      simp only [List.getElem?_toArray, List.getElem?_cons_succ, List.getElem?_cons_zero] at x0 x1 x2 x3 x4 x5 x6 x7 x8
      clear hq
      cases hq : formE q.e with
      | true =>
        have hjs : h.e = q.e ∧ fl = 0 := by
          rw [HQe.out] at hq ⊢
          rw [HHe.out, ← HFl.out]
          unfold jnS jnFl frE frF
          rw [if_pos hall, if_pos hall, if_pos hq, if_pos hq]
          exact ⟨rfl, rfl⟩
        obtain ⟨he, hfl⟩ := hjs
        have HS : Hid (∀ W, Below w6.heap.size w6 W → Calls Tryz.prog 19 #[.agg #[.int .i64 h.e.op, .int .i64 h.e.n, .int .i64 h.e.m, .int .i64 h.e.kind, .int .i64 h.e.lit.k, .int .i64 h.e.lit.n, .string h.e.lit.s, .slice h.A h.e.args.length h.c, .slice h.R h.e.rels.length h.d], .agg #[.int .i64 q.e.op, .int .i64 q.e.n, .int .i64 q.e.m, .int .i64 q.e.kind, .int .i64 q.e.lit.k, .int .i64 q.e.lit.n, .string q.e.lit.s, .slice q.A q.e.args.length q.c, .slice q.R q.e.rels.length q.d]] W fun x w2 => x = .returned (.bool true) ∧ Below W.heap.size W w2) := Lib.hid fun W hbW => by
          have k := RSame_any 1000000 h.e q.e h.A h.R h.c h.d q.A q.R q.c q.d W (by rw [he]; exact H6.out.2.2.2.1.n) (Nat.le_refl _) (H6.out.2.2.2.2.1.below hbW hbW.size) (H6.out.2.2.2.1.below hbW).a
          rw [he, sameE_self] at k
          rw [he]
          unfold E.val at k
          exact k
        rw [hfl]
        rw [hq] at HF
        unfold E.val at HF
        clear hq he hfl hall
        go_wp2_with fail
        refine HF.out.mono ?_
        rintro x w7 ⟨rfl, hb7⟩
        have H7 : Hid (Below w6.heap.size w6 w7) := Lib.hid hb7
        clear hb7 x0 x1 x2 x3 x4 x5 x6 x7 x8
        have hq := H6.out.2.1.below H7.out H6.out.2.1.lt
        have y0 := hq.cell 0
        have y1 := hq.cell 1
        have y2 := hq.cell 2
        have y3 := hq.cell 3
        have y4 := hq.cell 4
        have y5 := hq.cell 5
        have y6 := hq.cell 6
        have y7 := hq.cell 7
        have y8 := hq.cell 8
        simp only [List.getElem?_toArray, List.getElem?_cons_succ, List.getElem?_cons_zero] at y0 y1 y2 y3 y4 y5 y6 y7 y8
        clear hq
        have hq := H6.out.2.2.1.below H7.out H6.out.2.2.1.lt
        have x0 := hq.cell 0
        have x1 := hq.cell 1
        have x2 := hq.cell 2
        have x3 := hq.cell 3
        have x4 := hq.cell 4
        have x5 := hq.cell 5
        have x6 := hq.cell 6
        have x7 := hq.cell 7
        have x8 := hq.cell 8
        simp only [List.getElem?_toArray, List.getElem?_cons_succ, List.getElem?_cons_zero] at x0 x1 x2 x3 x4 x5 x6 x7 x8
        clear hq
        go_wp2_with fail
        refine (HS.out w7 H7.out).mono ?_
        rintro x w8 ⟨rfl, hb8⟩
        have H8 := Lib.hid (thn (thn H6.out.1 H7.out) hb8)
        clear hb8 x0 x1 x2 x3 x4 x5 x6 x7 x8 y0 y1 y2 y3 y4 y5 y6 y7 y8
        go_wp2_with fail
        refine (HAw.out w8 H8.out).mono ?_
        rintro x w9 ⟨rfl, hb9⟩
        have H9 := Lib.hid (thn H8.out hb9)
        clear hb9
        go_wp2_with fail
        go_ret
        exact ⟨rfl, H9.out⟩
      | false =>
        have hz : h.e = zE ∧ fl = 2 := by rw [HHe.out, ← HFl.out]; unfold jnS jnFl frE frF; rw [if_pos hall, if_pos hall, ← HQe.out, hq]; exact ⟨rfl, rfl⟩
        obtain ⟨he, hfl⟩ := hz
        have HBr : Hid (∀ W, Calls Tryz.prog 16 #[.agg #[.int .i64 h.e.op, .int .i64 h.e.n, .int .i64 h.e.m, .int .i64 h.e.kind, .int .i64 h.e.lit.k, .int .i64 h.e.lit.n, .string h.e.lit.s, .slice h.A h.e.args.length h.c, .slice h.R h.e.rels.length h.d]] W fun x w2 => x = .returned (.bool true) ∧ Below W.heap.size W w2) := Lib.hid fun W => by rw [he]; exact bare0_any h.A h.R h.c h.d W
        rw [hfl]
        clear he
        rw [hq] at HF
        unfold E.val at HF
        clear hq hall
        go_wp2_with fail
        refine HF.out.mono ?_
        rintro x w7 ⟨rfl, hb7⟩
        have H7 : Hid (Below w.heap.size w w7 ∧ Blk w7 g4 30 #[.int .i64 h.e.op, .int .i64 h.e.n, .int .i64 h.e.m, .int .i64 h.e.kind, .int .i64 h.e.lit.k, .int .i64 h.e.lit.n, .string h.e.lit.s, .slice h.A h.e.args.length h.c, .slice h.R h.e.rels.length h.d]) := Lib.hid ⟨thn H6.out.1 hb7, H6.out.2.1.below hb7 H6.out.2.1.lt⟩
        clear hb7 x0 x1 x2 x3 x4 x5 x6 x7 x8
        have hq := H7.out.2
        have x0 := hq.cell 0
        have x1 := hq.cell 1
        have x2 := hq.cell 2
        have x3 := hq.cell 3
        have x4 := hq.cell 4
        have x5 := hq.cell 5
        have x6 := hq.cell 6
        have x7 := hq.cell 7
        have x8 := hq.cell 8
        simp only [List.getElem?_toArray, List.getElem?_cons_succ, List.getElem?_cons_zero] at x0 x1 x2 x3 x4 x5 x6 x7 x8
        clear hq
        go_wp2_with fail
        refine (HBr.out w7).mono ?_
        rintro x w8 ⟨rfl, hb8⟩
        have H8 := Lib.hid (thn H7.out.1 hb8)
        clear hb8
        go_wp2_with fail
        refine (HAw.out w8 H8.out).mono ?_
        rintro x w9 ⟨rfl, hb9⟩
        have H9 := Lib.hid (thn H8.out hb9)
        clear hb9
        go_wp2_with fail
        go_ret
        exact ⟨rfl, H9.out⟩
end Go.Proofs.YtdiehgfldndgbaaGreatDoor
