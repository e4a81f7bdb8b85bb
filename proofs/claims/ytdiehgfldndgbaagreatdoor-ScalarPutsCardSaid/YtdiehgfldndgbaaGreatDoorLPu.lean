/-
  THE WALK of ScalarPuts.
-/
import Derived.Test.YtdiehgfldndgbaaGreatDoorGB01
import Derived.Test.YtdiehgfldndgbaaGreatDoorCuA
import Derived.Test.YtdiehgfldndgbaaGreatDoorGA19
import Derived.Test.YtdiehgfldndgbaaGreatDoorGB25
import Derived.Test.YtdiehgfldndgbaaGreatDoorGA07
import Derived.Test.YtdiehgfldndgbaaGreatDoorSam
namespace Go.Proofs.YtdiehgfldndgbaaGreatDoor
open Go.RowKit Go.Deep

theorem all_take_succP {l : List E} {j : Nat} (h : j < l.length) : (l.take (j + 1)).all formE = ((l.take j).all formE && formE l[j]) := by
  rw [List.take_succ_eq_append_getElem h, List.all_append]
  simp
set_option maxHeartbeats 16000000 in
set_option maxRecDepth 100000 in
theorem ScalarPuts_any (e : E) (A R : Option Addr) (c d : Nat) (rb : List E) (Ab : Option Addr) (cb : Nat) (w : World) (hG : GE w) (hS : GS w) (hI : EIn e) (hA : LOk w (Lo w.heap.size) A e.args) (hR : ROk w (Lo w.heap.size) R e.rels) (hBI : LIn rb) (hB : LOk w (Lo w.heap.size) Ab rb) :
    Calls Tryz.prog 5 #[e.val A c R d, .slice Ab rb.length cb] w fun x w' => x = .returned (.bool true) ∧ Below w.heap.size w w' := by
  have hb0 : Below w.heap.size w (w.alloc (.cells #[.int .i64 e.op, .int .i64 e.n, .int .i64 e.m, .int .i64 e.kind, .int .i64 e.lit.k, .int .i64 e.lit.n, .string e.lit.s, .slice A e.args.length c, .slice R e.rels.length d] 30)) := al (Below.refl _ _) _
  have H0 : Hid ((GE w ∧ GS w ∧ EIn e ∧ Below w.heap.size w (w.alloc (.cells #[.int .i64 e.op, .int .i64 e.n, .int .i64 e.m, .int .i64 e.kind, .int .i64 e.lit.k, .int .i64 e.lit.n, .string e.lit.s, .slice A e.args.length c, .slice R e.rels.length d] 30))) ∧ Blk (w.alloc (.cells #[.int .i64 e.op, .int .i64 e.n, .int .i64 e.m, .int .i64 e.kind, .int .i64 e.lit.k, .int .i64 e.lit.n, .string e.lit.s, .slice A e.args.length c, .slice R e.rels.length d] 30)) w.heap.size 30 #[.int .i64 e.op, .int .i64 e.n, .int .i64 e.m, .int .i64 e.kind, .int .i64 e.lit.k, .int .i64 e.lit.n, .string e.lit.s, .slice A e.args.length c, .slice R e.rels.length d]) := Lib.hid ⟨⟨hG, hS, hI, hb0⟩, Blk.new _ _ _⟩
  have HCe := Lib.hid (CutW_any e A R c d (w.alloc (.cells #[.int .i64 e.op, .int .i64 e.n, .int .i64 e.m, .int .i64 e.kind, .int .i64 e.lit.k, .int .i64 e.lit.n, .string e.lit.s, .slice A e.args.length c, .slice R e.rels.length d] 30)) hI (hA.below hb0 hb0.size) (hR.below hb0 hb0.size))
  have HCb : Hid (∀ W, Below w.heap.size w W → Calls Tryz.prog 13 #[.slice Ab rb.length cb, .int .i64 (20 : Nat)] W fun x w' => ∃ (A' : Option Addr) (c' : Nat), x = .returned (.slice A' (cutsE 20 rb).length c') ∧ (cutsE 20 rb).length ≤ c' ∧ c' ≤ maxLen ∧ LOk w' (NwB W.heap.size w'.heap.size) A' (cutsE 20 rb) ∧ Below W.heap.size W w') := Lib.hid fun W hb => CutAll_any 20 rb Ab cb W (by decide) hBI (hB.below hb hb.size)
  have HKs := Lib.hid (And.intro (cuts_len 20 rb) (And.intro (cuts_nodes 20 rb) (cuts_in (most := 20) hBI)))
  generalize cutsE 20 rb = bys at *
  clear hG hS hI hA hR hBI hB hb0
  unfold E.val at HCe ⊢
  go_enter Tryz.func5, Tryz.ntmps5
  go_wp2_with fail
  refine HCe.out.mono ?_
  rintro x w2 ⟨h, hh, rfl, hb2, hok⟩
  have H2 : Hid (Below w.heap.size w w2 ∧ h.e = (cutE 420 e).1 ∧ h.ok w2 (Lo w2.heap.size)) := Lib.hid ⟨thn H0.out.1.2.2.2 hb2, hh, hok.kept (fun _ _ => rfl) fun b hb => hb.2⟩
  clear hb2 hh hok HCe
  go_wp2_with fail
  refine (HCb.out w2 H2.out.1).mono ?_
  rintro x w3 ⟨A3, c3, rfl, -, -, hL3, hb3⟩
  obtain ⟨g5, hg5⟩ : ∃ g, g = w3.heap.size := ⟨_, rfl⟩
  have hb4 : Below w2.heap.size w2 (w3.alloc (.cells #[.int .i64 h.e.op, .int .i64 h.e.n, .int .i64 h.e.m, .int .i64 h.e.kind, .int .i64 h.e.lit.k, .int .i64 h.e.lit.n, .string h.e.lit.s, .slice h.A h.e.args.length h.c, .slice h.R h.e.rels.length h.d] 30)) := al hb3 _
  have h5 : h.ok (w3.alloc (.cells #[.int .i64 h.e.op, .int .i64 h.e.n, .int .i64 h.e.m, .int .i64 h.e.kind, .int .i64 h.e.lit.k, .int .i64 h.e.lit.n, .string h.e.lit.s, .slice h.A h.e.args.length h.c, .slice h.R h.e.rels.length h.d] 30)) (Lo (w3.alloc (.cells #[.int .i64 h.e.op, .int .i64 h.e.n, .int .i64 h.e.m, .int .i64 h.e.kind, .int .i64 h.e.lit.k, .int .i64 h.e.lit.n, .string h.e.lit.s, .slice h.A h.e.args.length h.c, .slice h.R h.e.rels.length h.d] 30)).heap.size) := H2.out.2.2.kept (fun b hb => hb4.block b hb) fun b hb => Nat.lt_of_lt_of_le hb hb4.size
  have E1 := Lib.hid (cut_has H0.out.1.2.2.1 H2.out.2.1 h5)
  have B5 : Hid (Blk (w3.alloc (.cells #[.int .i64 h.e.op, .int .i64 h.e.n, .int .i64 h.e.m, .int .i64 h.e.kind, .int .i64 h.e.lit.k, .int .i64 h.e.lit.n, .string h.e.lit.s, .slice h.A h.e.args.length h.c, .slice h.R h.e.rels.length h.d] 30)) g5 30 #[.int .i64 h.e.op, .int .i64 h.e.n, .int .i64 h.e.m, .int .i64 h.e.kind, .int .i64 h.e.lit.k, .int .i64 h.e.lit.n, .string h.e.lit.s, .slice h.A h.e.args.length h.c, .slice h.R h.e.rels.length h.d]) := Lib.hid (by rw [hg5]; exact Blk.new _ _ _)
  have I8 : Hid (LOk (w3.alloc (.cells #[.int .i64 h.e.op, .int .i64 h.e.n, .int .i64 h.e.m, .int .i64 h.e.kind, .int .i64 h.e.lit.k, .int .i64 h.e.lit.n, .string h.e.lit.s, .slice h.A h.e.args.length h.c, .slice h.R h.e.rels.length h.d] 30)) (Lo (w3.alloc (.cells #[.int .i64 h.e.op, .int .i64 h.e.n, .int .i64 h.e.m, .int .i64 h.e.kind, .int .i64 h.e.lit.k, .int .i64 h.e.lit.n, .string h.e.lit.s, .slice h.A h.e.args.length h.c, .slice h.R h.e.rels.length h.d] 30)).heap.size) A3 bys) := Lib.hid (hL3.kept (fun b hb => Below.heap_alloc w3 _ b hb.2) fun b hb => by have := hb.2; simp; omega)
  have HGW := Lib.hid (And.intro (H0.out.1.1.thn (thn H2.out.1 hb4)) (And.intro (H0.out.1.2.1.thn (thn H2.out.1 hb4)) (thn H2.out.1 hb4)))
  have hI5 := E1.out.2
  clear hb3 hb4 h5 hL3 HCb H2 H0
  unfold HE.val E.val
  go_upto_region 2 with fail
  change Code.wp _ _ _ _ (w3.alloc (.cells #[.int .i64 h.e.op, .int .i64 h.e.n, .int .i64 h.e.m, .int .i64 h.e.kind, .int .i64 h.e.lit.k, .int .i64 h.e.lit.n, .string h.e.lit.s, .slice h.A h.e.args.length h.c, .slice h.R h.e.rels.length h.d] 30))
  rw [← hg5]
  clear hg5
  generalize (w3.alloc (.cells #[.int .i64 h.e.op, .int .i64 h.e.n, .int .i64 h.e.m, .int .i64 h.e.kind, .int .i64 h.e.lit.k, .int .i64 h.e.lit.n, .string h.e.lit.s, .slice h.A h.e.args.length h.c, .slice h.R h.e.rels.length h.d] 30)) = ww at *
  have HMv := Lib.hid (PutP_any h.e h.A h.R h.c h.d bys A3 c3 ww HGW.out.2.1 E1.out.1 hI5 I8.out HKs.out.2.2 HKs.out.2.1)
  have HF := Lib.hid (fun W (hbW : Below ww.heap.size ww W) => Form_any h.e h.A h.R h.c h.d W E1.out.1.n E1.out.1.f (E1.out.1.below hbW).a)
  have HAw : Hid (∀ W, Below ww.heap.size ww W → Calls Tryz.prog 17 #[] W fun x w2 => x = .returned (.bool true) ∧ Below W.heap.size W w2) := Lib.hid fun W hbW => awakeE_any W (HGW.out.1.thn hbW) (HGW.out.2.1.thn hbW)
  generalize hps : ptS bys h.e = pr at *
  obtain ⟨pe, pf⟩ := pr
  have HPs := Lib.hid hps
  clear hps hI5
  unfold E.val at HMv
  have hq := B5.out
  have x0 := hq.cell 0
  have x1 := hq.cell 1
  have x2 := hq.cell 2
  have x3 := hq.cell 3
  have x4 := hq.cell 4
  have x5 := hq.cell 5
  have x6 := hq.cell 6
  have x7 := hq.cell 7
  have x8 := hq.cell 8
  simp only [List.getElem?_toArray, List.getElem?_cons_succ, List.getElem?_cons_zero] at x0 x1 x2 x3 x4 x5 x6 x7 x8
  clear hq
  go_wp2_with fail
  refine HMv.out.mono ?_
  rintro x w3 ⟨p, hpe, rfl, hb3, hpok⟩
  obtain ⟨g7, hg7⟩ : ∃ g, g = w3.heap.size := ⟨_, rfl⟩
  have hbp : Below ww.heap.size ww (w3.alloc (.cells #[.int .i64 p.e.op, .int .i64 p.e.n, .int .i64 p.e.m, .int .i64 p.e.kind, .int .i64 p.e.lit.k, .int .i64 p.e.lit.n, .string p.e.lit.s, .slice p.A p.e.args.length p.c, .slice p.R p.e.rels.length p.d] 30)) := al hb3 _
  have H6 : Hid (Below ww.heap.size ww (w3.alloc (.cells #[.int .i64 p.e.op, .int .i64 p.e.n, .int .i64 p.e.m, .int .i64 p.e.kind, .int .i64 p.e.lit.k, .int .i64 p.e.lit.n, .string p.e.lit.s, .slice p.A p.e.args.length p.c, .slice p.R p.e.rels.length p.d] 30)) ∧ Blk (w3.alloc (.cells #[.int .i64 p.e.op, .int .i64 p.e.n, .int .i64 p.e.m, .int .i64 p.e.kind, .int .i64 p.e.lit.k, .int .i64 p.e.lit.n, .string p.e.lit.s, .slice p.A p.e.args.length p.c, .slice p.R p.e.rels.length p.d] 30)) g5 30 #[.int .i64 h.e.op, .int .i64 h.e.n, .int .i64 h.e.m, .int .i64 h.e.kind, .int .i64 h.e.lit.k, .int .i64 h.e.lit.n, .string h.e.lit.s, .slice h.A h.e.args.length h.c, .slice h.R h.e.rels.length h.d] ∧ Blk (w3.alloc (.cells #[.int .i64 p.e.op, .int .i64 p.e.n, .int .i64 p.e.m, .int .i64 p.e.kind, .int .i64 p.e.lit.k, .int .i64 p.e.lit.n, .string p.e.lit.s, .slice p.A p.e.args.length p.c, .slice p.R p.e.rels.length p.d] 30)) g7 30 #[.int .i64 p.e.op, .int .i64 p.e.n, .int .i64 p.e.m, .int .i64 p.e.kind, .int .i64 p.e.lit.k, .int .i64 p.e.lit.n, .string p.e.lit.s, .slice p.A p.e.args.length p.c, .slice p.R p.e.rels.length p.d] ∧ p.ok (w3.alloc (.cells #[.int .i64 p.e.op, .int .i64 p.e.n, .int .i64 p.e.m, .int .i64 p.e.kind, .int .i64 p.e.lit.k, .int .i64 p.e.lit.n, .string p.e.lit.s, .slice p.A p.e.args.length p.c, .slice p.R p.e.rels.length p.d] 30)) (Lo ((w3.alloc (.cells #[.int .i64 p.e.op, .int .i64 p.e.n, .int .i64 p.e.m, .int .i64 p.e.kind, .int .i64 p.e.lit.k, .int .i64 p.e.lit.n, .string p.e.lit.s, .slice p.A p.e.args.length p.c, .slice p.R p.e.rels.length p.d] 30))).heap.size)) := Lib.hid ⟨hbp, B5.out.below hbp B5.out.lt, by rw [hg7]; exact Blk.new _ _ _, hpok.kept (fun b hb => Below.heap_alloc w3 _ b hb.2) fun b hb => by have := hb.2; simp; omega⟩
  have HPe := Lib.hid hpe
  clear hb3 hpok hpe hbp HMv x0 x1 x2 x3 x4 x5 x6 x7 x8
  unfold HE.val E.val
  go_upto_region 3 with fail
  change Code.wp _ _ _ _ (w3.alloc (.cells #[.int .i64 p.e.op, .int .i64 p.e.n, .int .i64 p.e.m, .int .i64 p.e.kind, .int .i64 p.e.lit.k, .int .i64 p.e.lit.n, .string p.e.lit.s, .slice p.A p.e.args.length p.c, .slice p.R p.e.rels.length p.d] 30))
  rw [← hg7]
  clear hg7
  generalize (w3.alloc (.cells #[.int .i64 p.e.op, .int .i64 p.e.n, .int .i64 p.e.m, .int .i64 p.e.kind, .int .i64 p.e.lit.k, .int .i64 p.e.lit.n, .string p.e.lit.s, .slice p.A p.e.args.length p.c, .slice p.R p.e.rels.length p.d] 30)) = w6 at *
  have HFc := Lib.hid (HF.out w6 H6.out.1)
  have HFx : Hid (formE h.e = formE h.e) := Lib.hid rfl
  unfold E.val at HFc
  have hq := H6.out.2.1
  have x0 := hq.cell 0
  have x1 := hq.cell 1
  have x2 := hq.cell 2
  have x3 := hq.cell 3
  have x4 := hq.cell 4
  have x5 := hq.cell 5
  have x6 := hq.cell 6
  have x7 := hq.cell 7
  have x8 := hq.cell 8
  simp only [List.getElem?_toArray, List.getElem?_cons_succ, List.getElem?_cons_zero] at x0 x1 x2 x3 x4 x5 x6 x7 x8
  clear hq
  generalize hfe : formE h.e = fe at HFc
  have HFe := Lib.hid hfe
  clear hfe HFx HF
  go_wp2_with fail
  refine HFc.out.mono ?_
  rintro x w7 ⟨rfl, hb7⟩
  have H7 : Hid (Below ww.heap.size ww w7 ∧ Blk w7 g5 30 #[.int .i64 h.e.op, .int .i64 h.e.n, .int .i64 h.e.m, .int .i64 h.e.kind, .int .i64 h.e.lit.k, .int .i64 h.e.lit.n, .string h.e.lit.s, .slice h.A h.e.args.length h.c, .slice h.R h.e.rels.length h.d] ∧ Blk w7 g7 30 #[.int .i64 p.e.op, .int .i64 p.e.n, .int .i64 p.e.m, .int .i64 p.e.kind, .int .i64 p.e.lit.k, .int .i64 p.e.lit.n, .string p.e.lit.s, .slice p.A p.e.args.length p.c, .slice p.R p.e.rels.length p.d] ∧ p.ok w7 (Lo w7.heap.size)) := Lib.hid ⟨thn H6.out.1 hb7, H6.out.2.1.below hb7 H6.out.2.1.lt, H6.out.2.2.1.below hb7 H6.out.2.2.1.lt, H6.out.2.2.2.kept (fun b h => hb7.block b h) fun b h => Nat.lt_of_lt_of_le h hb7.size⟩
  clear hb7 HFc H6 x0 x1 x2 x3 x4 x5 x6 x7 x8
  go_wp2_with fail
  go_loopw [9, 10] (fun gv iv wr => ∃ j : Nat, j ≤ bys.length ∧ iv = .int .i64 j ∧ gv = .bool (fe && (bys.take j).all formE) ∧ Hid (Below ww.heap.size ww wr ∧ Blk wr g5 30 #[.int .i64 h.e.op, .int .i64 h.e.n, .int .i64 h.e.m, .int .i64 h.e.kind, .int .i64 h.e.lit.k, .int .i64 h.e.lit.n, .string h.e.lit.s, .slice h.A h.e.args.length h.c, .slice h.R h.e.rels.length h.d] ∧ Blk wr g7 30 #[.int .i64 p.e.op, .int .i64 p.e.n, .int .i64 p.e.m, .int .i64 p.e.kind, .int .i64 p.e.lit.k, .int .i64 p.e.lit.n, .string p.e.lit.s, .slice p.A p.e.args.length p.c, .slice p.R p.e.rels.length p.d] ∧ p.ok wr (Lo wr.heap.size))) (fun _ iv _ => bys.length - (intOf iv).toNat)
  case atStart => exact ⟨0, Nat.zero_le _, rfl, by simp, H7.out⟩
  case round =>
    clear H7
    obtain ⟨j, hj, rfl, rfl, HC⟩ := hrel
    have hk20 := HKs.out.1
    by_cases hlt : j < bys.length
    · have hlti : (j : Int) < (bys.length : Int) := by omega
      have hj0 : (0 : Int) ≤ (j : Int) := by omega
      have HN := Lib.hid (all_take_succP hlt)
      generalize (bys.take j).all formE = aj at *
      obtain ⟨b, o, A', c', R', d', hA3, hZ, hLj, -⟩ := (I8.out.below HC.out.1 HC.out.1.size).eat hlt
      subst hA3
      have hmm := nodesL_mem (List.getElem_mem hlt)
      have HFj := Lib.hid (Form_any bys[j] A' R' c' d' wr (by have := HKs.out.2.1; omega) (fitX_of _ (HKs.out.2.2 _ (List.getElem_mem hlt)) (by have := HKs.out.2.1; omega)) hLj)
      have x0 := hZ.c0
      have x1 := hZ.c1
      have x2 := hZ.c2
      have x3 := hZ.c3
      have x4 := hZ.c4
      have x5 := hZ.c5
      have x6 := hZ.c6
      have x7 := hZ.c7
      have x8 := hZ.c8
      clear hZ hLj hmm
      generalize formE bys[j] = fj at *
      generalize bys[j] = ej at *
      unfold E.val at HFj
      cases hga : (fe && aj)
      · have HN2 : Hid ((fe && (bys.take (j + 1)).all formE) = false) := Lib.hid (by rw [HN.out, ← Bool.and_assoc, hga]; rfl)
        go_wp2_with fail
        first | exact ⟨⟨j + 1, by omega, by go_num, by rw [HN2.out], HC⟩, by simp [intOf]; omega⟩ | (go_roundw; case rel => exact ⟨j + 1, by omega, by go_num, by rw [HN2.out], HC⟩; case measure => simp [intOf]; omega)
      · have HN2 : Hid ((fe && (bys.take (j + 1)).all formE) = fj) := Lib.hid (by rw [HN.out, ← Bool.and_assoc, hga]; rfl)
        go_wp2_with fail
        refine HFj.out.mono ?_
        rintro x w8 ⟨rfl, hb8⟩
        have HCn : Hid (Below ww.heap.size ww w8 ∧ Blk w8 g5 30 #[.int .i64 h.e.op, .int .i64 h.e.n, .int .i64 h.e.m, .int .i64 h.e.kind, .int .i64 h.e.lit.k, .int .i64 h.e.lit.n, .string h.e.lit.s, .slice h.A h.e.args.length h.c, .slice h.R h.e.rels.length h.d] ∧ Blk w8 g7 30 #[.int .i64 p.e.op, .int .i64 p.e.n, .int .i64 p.e.m, .int .i64 p.e.kind, .int .i64 p.e.lit.k, .int .i64 p.e.lit.n, .string p.e.lit.s, .slice p.A p.e.args.length p.c, .slice p.R p.e.rels.length p.d] ∧ p.ok w8 (Lo w8.heap.size)) := Lib.hid ⟨thn HC.out.1 hb8, HC.out.2.1.below hb8 HC.out.2.1.lt, HC.out.2.2.1.below hb8 HC.out.2.2.1.lt, HC.out.2.2.2.kept (fun b h => hb8.block b h) fun b h => Nat.lt_of_lt_of_le h hb8.size⟩
        clear hb8 HFj x0 x1 x2 x3 x4 x5 x6 x7 x8
        go_wp2_with fail
        first | exact ⟨⟨j + 1, by omega, by go_num, by rw [HN2.out], HCn⟩, by simp [intOf]; omega⟩ | (go_roundw; case rel => exact ⟨j + 1, by omega, by go_num, by rw [HN2.out], HCn⟩; case measure => simp [intOf]; omega)
    · have hlf : decide ((j : Int) < (bys.length : Int)) = false := decide_eq_false (by omega)
      have hjt : bys.take j = bys := List.take_of_length_le (by omega)
      rw [hjt]
      clear hjt
      have hnd := HKs.out.2.1
      cases hgd : (fe && bys.all formE)
      · have hpz : pe = zE ∧ pf = 30 := by
          have h1 := HPs.out
          unfold ptS at h1
          cases hfe : fe
          · rw [hfe] at HFe
            rw [HFe.out] at h1
            cases h1
            exact ⟨rfl, rfl⟩
          · rw [hfe] at hgd HFe
            rw [Bool.true_and] at hgd
            rw [if_pos HFe.out, hgd] at h1
            cases h1
            exact ⟨rfl, rfl⟩
        obtain ⟨rfl, rfl⟩ := hpz
        clear hgd HPs
        have HBr : Hid (∀ W, Calls Tryz.prog 16 #[.agg #[.int .i64 p.e.op, .int .i64 p.e.n, .int .i64 p.e.m, .int .i64 p.e.kind, .int .i64 p.e.lit.k, .int .i64 p.e.lit.n, .string p.e.lit.s, .slice p.A p.e.args.length p.c, .slice p.R p.e.rels.length p.d]] W fun x w2 => x = .returned (.bool true) ∧ Below W.heap.size W w2) := Lib.hid fun W => by rw [HPe.out]; exact bare0_any p.A p.R p.c p.d W
        have hq := HC.out.2.2.1
        have x0 := hq.cell 0
        have x1 := hq.cell 1
        have x2 := hq.cell 2
        have x3 := hq.cell 3
        have x4 := hq.cell 4
        have x5 := hq.cell 5
        have x6 := hq.cell 6
        have x7 := hq.cell 7
        have x8 := hq.cell 8
        simp only [List.getElem?_toArray, List.getElem?_cons_succ, List.getElem?_cons_zero] at x0 x1 x2 x3 x4 x5 x6 x7 x8
        clear hq
        go_wp2_with fail
        refine (HBr.out wr).mono ?_
        rintro x w21 ⟨rfl, hb21⟩
        have H21 := Lib.hid (thn HC.out.1 hb21)
        clear hb21 HBr x0 x1 x2 x3 x4 x5 x6 x7 x8
        go_wp2_with fail
        refine (HAw.out w21 H21.out).mono ?_
        rintro x w22 ⟨rfl, hb22⟩
        have H22 := Lib.hid (thn HGW.out.2.2 (thn H21.out hb22))
        clear hb22
        go_wp2_with fail
        go_ret
        exact ⟨rfl, H22.out⟩
      · rw [Bool.and_eq_true] at hgd
        obtain ⟨hfe, hab⟩ := hgd
        subst hfe
        have hq := HFe.out
        have hf := formE_iff.1 hq
        have HCl := Lib.hid (RColumns_any 10000 24 h.e h.A h.R h.c h.d wr (by have := hf.2; omega) (Nat.le_refl _) hf.1 (E1.out.1.below HC.out.1).a)
        have hcl := clmE_len h.e
        have hcl400 : (clmE h.e).length ≤ 400 := by have := hf.2; omega
        have hsrt := (clmE_spec h.e (leafy_of 24 h.e hf.1)).1
        have HPr : Hid ((pe, pf) = if (clmE h.e).any (badPt bys.length) = true then (zE, 1) else (frE (mapE (rpF bys) h.e), frF (mapE (rpF bys) h.e))) := Lib.hid (by rw [← HPs.out]; unfold ptS; rw [if_pos hq, if_pos hab])
        have HGd : Hid ((clmE h.e).any (badPt bys.length) = false → ∀ x ∈ lvsE h.e, x.op = 1 → 0 ≤ x.n ∧ x.n.toNat < bys.length) := Lib.hid fun hb => pt_good hf.1 hb
        have HLa : Hid (∀ z, (clmE h.e)[(clmE h.e).length - 1]? = some z → (clmE h.e).any (badPt bys.length) = badPt bys.length z) := Lib.hid fun z hz => by
          obtain ⟨hl, rfl⟩ := List.getElem?_eq_some_iff.1 hz
          exact last_bad hsrt (by omega)
        have HL0 : Hid ((clmE h.e).length = 0 → (clmE h.e).any (badPt bys.length) = false) := Lib.hid fun hl => by rw [List.eq_nil_of_length_eq_zero hl]; rfl
        clear hcl hsrt
        generalize clmE h.e = cl at *
        unfold E.val at HCl
        have hq := HC.out.2.1
        have x0 := hq.cell 0
        have x1 := hq.cell 1
        have x2 := hq.cell 2
        have x3 := hq.cell 3
        have x4 := hq.cell 4
        have x5 := hq.cell 5
        have x6 := hq.cell 6
        have x7 := hq.cell 7
        have x8 := hq.cell 8
        simp only [List.getElem?_toArray, List.getElem?_cons_succ, List.getElem?_cons_zero] at x0 x1 x2 x3 x4 x5 x6 x7 x8
        clear hq
        go_wp2_with fail
        refine HCl.out.mono ?_
        rintro x w8 ⟨A8, c8, rfl, hi8, hb8⟩
        have H8 : Hid (Below ww.heap.size ww w8 ∧ Blk w8 g5 30 #[.int .i64 h.e.op, .int .i64 h.e.n, .int .i64 h.e.m, .int .i64 h.e.kind, .int .i64 h.e.lit.k, .int .i64 h.e.lit.n, .string h.e.lit.s, .slice h.A h.e.args.length h.c, .slice h.R h.e.rels.length h.d] ∧ Blk w8 g7 30 #[.int .i64 p.e.op, .int .i64 p.e.n, .int .i64 p.e.m, .int .i64 p.e.kind, .int .i64 p.e.lit.k, .int .i64 p.e.lit.n, .string p.e.lit.s, .slice p.A p.e.args.length p.c, .slice p.R p.e.rels.length p.d] ∧ p.ok w8 (Lo w8.heap.size)) := Lib.hid ⟨thn HC.out.1 hb8, HC.out.2.1.below hb8 HC.out.2.1.lt, HC.out.2.2.1.below hb8 HC.out.2.2.1.lt, HC.out.2.2.2.kept (fun b h => hb8.block b h) fun b h => Nat.lt_of_lt_of_le h hb8.size⟩
        have HI8 := Lib.hid hi8
        clear hb8 hi8 HCl HC x0 x1 x2 x3 x4 x5 x6 x7 x8
        by_cases hcl0 : 0 < cl.length
        · have hcli : (0 : Int) < (cl.length : Int) := by omega
          have hcl1 : ((cl.length : Int) - 1) < (cl.length : Int) := by omega
          have hcl2 : (0 : Int) ≤ (cl.length : Int) - 1 := by omega
          obtain ⟨b8, o8, rfl, hb8, c8c⟩ := HI8.out.at_ (show cl.length - 1 < cl.length by omega)
          have hidx : (cl.length : Int) - 1 = ((cl.length - 1 : Nat) : Int) := by omega
          have HLz := Lib.hid (HLa.out _ (List.getElem?_eq_getElem (show cl.length - 1 < cl.length by omega)))
          generalize cl[cl.length - 1] = z at *
          obtain ⟨m8, hm8⟩ : ∃ m, m = cl.length - 1 := ⟨_, rfl⟩
          rw [← hm8] at c8c hidx
          have hm8lt : m8 < cl.length := by omega
          have hm8i : (m8 : Int) < (cl.length : Int) := by omega
          have hm80 : (0 : Int) ≤ (m8 : Int) := by omega
          have HM8 := Lib.hid hm8
          clear hm8 hcl1 hcl2
          by_cases hbz : (bys.length : Int) ≤ z
          · have hbad : cl.any (badPt bys.length) = true := by rw [HLz.out]; unfold badPt; exact decide_eq_true hbz
            have hpp : pe = zE ∧ pf = 1 := by
              have h1 := HPr.out
              rw [if_pos hbad] at h1
              cases h1
              exact ⟨rfl, rfl⟩
            obtain ⟨rfl, rfl⟩ := hpp
            clear hbad HPr HPs HLa HL0 HLz HGd
            go_upto_region 12 with fail
            clear c8c hidx hbz hcl0 hcli hm8lt hm8i hm80
            have HBr : Hid (∀ W, Calls Tryz.prog 16 #[.agg #[.int .i64 p.e.op, .int .i64 p.e.n, .int .i64 p.e.m, .int .i64 p.e.kind, .int .i64 p.e.lit.k, .int .i64 p.e.lit.n, .string p.e.lit.s, .slice p.A p.e.args.length p.c, .slice p.R p.e.rels.length p.d]] W fun x w2 => x = .returned (.bool true) ∧ Below W.heap.size W w2) := Lib.hid fun W => by rw [HPe.out]; exact bare0_any p.A p.R p.c p.d W
            have hq := H8.out.2.2.1
            have x0 := hq.cell 0
            have x1 := hq.cell 1
            have x2 := hq.cell 2
            have x3 := hq.cell 3
            have x4 := hq.cell 4
            have x5 := hq.cell 5
            have x6 := hq.cell 6
            have x7 := hq.cell 7
            have x8 := hq.cell 8
            simp only [List.getElem?_toArray, List.getElem?_cons_succ, List.getElem?_cons_zero] at x0 x1 x2 x3 x4 x5 x6 x7 x8
            clear hq
            go_wp2_with fail
            refine (HBr.out w8).mono ?_
            rintro x w21 ⟨rfl, hb21⟩
            have H21 := Lib.hid (thn H8.out.1 hb21)
            clear hb21 HBr x0 x1 x2 x3 x4 x5 x6 x7 x8
            go_wp2_with fail
            refine (HAw.out w21 H21.out).mono ?_
            rintro x w22 ⟨rfl, hb22⟩
            have H22 := Lib.hid (thn HGW.out.2.2 (thn H21.out hb22))
            clear hb22
            go_wp2_with fail
            go_ret
            exact ⟨rfl, H22.out⟩
          · have hbzf : decide ((bys.length : Int) ≤ z) = false := decide_eq_false hbz
            have hbad : cl.any (badPt bys.length) = false := by rw [HLz.out]; unfold badPt; exact hbzf
            clear HLz
            go_upto_region 13 with fail
            clear c8c hidx hbz hbzf hcl0 hcli hm8lt hm8i hm80
            have hgd := HGd.out hbad
            have HPv := HPr
            rw [hbad] at HPv
            have HMy := Lib.hid (many_any bys (fun b hb => ⟨List.all_eq_true.1 hab b hb, by have := nodesL_mem hb; omega⟩) 1000 24 h.e h.A h.R h.c h.d A3 c3 w8 (by have := hf.2; omega) (Nat.le_refl _) hf.1 (E1.out.1.below H8.out.1).a (I8.out.below H8.out.1 H8.out.1.size) hgd)
            have hmx := put_many (bys := bys) hf.1 (fun b hb => by have := nodesL_mem hb; omega)
            have HIn := Lib.hid (put_inn (bys := bys) hf.1 E1.out.2 HKs.out.2.2)
            have HRp : Hid (∀ W, Below ww.heap.size ww W → Calls Tryz.prog 26 #[h.e.val h.A h.c h.R h.d, .slice A3 bys.length c3] W fun x w2 => ∃ q : HE, q.e = mapE (rpF bys) h.e ∧ x = .returned (.tuple #[q.val, .bool true]) ∧ Below W.heap.size W w2 ∧ q.ok w2 (NwB W.heap.size w2.heap.size)) := Lib.hid fun W hb => Replaced_any bys (fun b hb2 => ⟨(formE_iff.1 (List.all_eq_true.1 hab b hb2)).1, by have := nodesL_mem hb2; omega⟩) 10000 24 h.e h.A h.R h.c h.d A3 c3 W (by have := hf.2; omega) (Nat.le_refl _) hf.1 (E1.out.1.below hb).a (I8.out.below hb hb.size) hgd
            have hme : nodesE (mapE (rpF bys) h.e) ≤ 168000 := by have := hf.2; omega
            clear hgd hbad hmx HGd HPr HPs HLa HL0
            generalize hmp : mapE (rpF bys) h.e = me at *
            clear hmp
            unfold E.val at HMy HRp
            have hq := H8.out.2.1
            have x0 := hq.cell 0
            have x1 := hq.cell 1
            have x2 := hq.cell 2
            have x3 := hq.cell 3
            have x4 := hq.cell 4
            have x5 := hq.cell 5
            have x6 := hq.cell 6
            have x7 := hq.cell 7
            have x8 := hq.cell 8
            simp only [List.getElem?_toArray, List.getElem?_cons_succ, List.getElem?_cons_zero] at x0 x1 x2 x3 x4 x5 x6 x7 x8
            clear hq
            by_cases h400 : nodesE me ≤ 400
            · have h400f : decide ((400 : Int) < (nodesE me : Int)) = false := decide_eq_false (by omega)
              have h400n : decide (400 < nodesE me) = false := decide_eq_false (by omega)
              generalize hne : nodesE me = nn at HMy h400f h400n
              go_wp2_with fail
              refine HMy.out.mono ?_
              rintro x w9 ⟨rfl, hb9⟩
              have H9 : Hid (Below ww.heap.size ww w9 ∧ Blk w9 g5 30 #[.int .i64 h.e.op, .int .i64 h.e.n, .int .i64 h.e.m, .int .i64 h.e.kind, .int .i64 h.e.lit.k, .int .i64 h.e.lit.n, .string h.e.lit.s, .slice h.A h.e.args.length h.c, .slice h.R h.e.rels.length h.d] ∧ Blk w9 g7 30 #[.int .i64 p.e.op, .int .i64 p.e.n, .int .i64 p.e.m, .int .i64 p.e.kind, .int .i64 p.e.lit.k, .int .i64 p.e.lit.n, .string p.e.lit.s, .slice p.A p.e.args.length p.c, .slice p.R p.e.rels.length p.d] ∧ p.ok w9 (Lo w9.heap.size)) := Lib.hid ⟨thn H8.out.1 hb9, H8.out.2.1.below hb9 H8.out.2.1.lt, H8.out.2.2.1.below hb9 H8.out.2.2.1.lt, H8.out.2.2.2.kept (fun b h => hb9.block b h) fun b h => Nat.lt_of_lt_of_le h hb9.size⟩
              clear hb9 HMy H8 hne x0 x1 x2 x3 x4 x5 x6 x7 x8
              have HRq := Lib.hid (HRp.out w9 H9.out.1)
              clear HRp
              have hq := H9.out.2.1
              have x0 := hq.cell 0
              have x1 := hq.cell 1
              have x2 := hq.cell 2
              have x3 := hq.cell 3
              have x4 := hq.cell 4
              have x5 := hq.cell 5
              have x6 := hq.cell 6
              have x7 := hq.cell 7
              have x8 := hq.cell 8
              simp only [List.getElem?_toArray, List.getElem?_cons_succ, List.getElem?_cons_zero] at x0 x1 x2 x3 x4 x5 x6 x7 x8
              clear hq
              go_wp2_with fail
              refine HRq.out.mono ?_
              rintro x w10 ⟨q, hqe, rfl, hb10, hqok⟩
              obtain ⟨g9, hg9⟩ : ∃ g, g = w10.heap.size := ⟨_, rfl⟩
              have hbq : Below w9.heap.size w9 (w10.alloc (.cells #[.int .i64 q.e.op, .int .i64 q.e.n, .int .i64 q.e.m, .int .i64 q.e.kind, .int .i64 q.e.lit.k, .int .i64 q.e.lit.n, .string q.e.lit.s, .slice q.A q.e.args.length q.c, .slice q.R q.e.rels.length q.d] 30)) := al hb10 _
              have HT : Hid (Below ww.heap.size ww (w10.alloc (.cells #[.int .i64 q.e.op, .int .i64 q.e.n, .int .i64 q.e.m, .int .i64 q.e.kind, .int .i64 q.e.lit.k, .int .i64 q.e.lit.n, .string q.e.lit.s, .slice q.A q.e.args.length q.c, .slice q.R q.e.rels.length q.d] 30)) ∧ Blk (w10.alloc (.cells #[.int .i64 q.e.op, .int .i64 q.e.n, .int .i64 q.e.m, .int .i64 q.e.kind, .int .i64 q.e.lit.k, .int .i64 q.e.lit.n, .string q.e.lit.s, .slice q.A q.e.args.length q.c, .slice q.R q.e.rels.length q.d] 30)) g9 30 #[.int .i64 q.e.op, .int .i64 q.e.n, .int .i64 q.e.m, .int .i64 q.e.kind, .int .i64 q.e.lit.k, .int .i64 q.e.lit.n, .string q.e.lit.s, .slice q.A q.e.args.length q.c, .slice q.R q.e.rels.length q.d] ∧ Blk (w10.alloc (.cells #[.int .i64 q.e.op, .int .i64 q.e.n, .int .i64 q.e.m, .int .i64 q.e.kind, .int .i64 q.e.lit.k, .int .i64 q.e.lit.n, .string q.e.lit.s, .slice q.A q.e.args.length q.c, .slice q.R q.e.rels.length q.d] 30)) g7 30 #[.int .i64 p.e.op, .int .i64 p.e.n, .int .i64 p.e.m, .int .i64 p.e.kind, .int .i64 p.e.lit.k, .int .i64 p.e.lit.n, .string p.e.lit.s, .slice p.A p.e.args.length p.c, .slice p.R p.e.rels.length p.d] ∧ p.ok (w10.alloc (.cells #[.int .i64 q.e.op, .int .i64 q.e.n, .int .i64 q.e.m, .int .i64 q.e.kind, .int .i64 q.e.lit.k, .int .i64 q.e.lit.n, .string q.e.lit.s, .slice q.A q.e.args.length q.c, .slice q.R q.e.rels.length q.d] 30)) (Lo ((w10.alloc (.cells #[.int .i64 q.e.op, .int .i64 q.e.n, .int .i64 q.e.m, .int .i64 q.e.kind, .int .i64 q.e.lit.k, .int .i64 q.e.lit.n, .string q.e.lit.s, .slice q.A q.e.args.length q.c, .slice q.R q.e.rels.length q.d] 30))).heap.size) ∧ EHas (w10.alloc (.cells #[.int .i64 q.e.op, .int .i64 q.e.n, .int .i64 q.e.m, .int .i64 q.e.kind, .int .i64 q.e.lit.k, .int .i64 q.e.lit.n, .string q.e.lit.s, .slice q.A q.e.args.length q.c, .slice q.R q.e.rels.length q.d] 30)) q.e q.A q.R) := Lib.hid ⟨thn H9.out.1 hbq, by rw [hg9]; exact Blk.new _ _ _, H9.out.2.2.1.below hbq H9.out.2.2.1.lt, H9.out.2.2.2.kept (fun b h => hbq.block b h) (fun b h => Nat.lt_of_lt_of_le h hbq.size), EHas.of (c := q.c) (d := q.d) (hqok.kept (P' := Lo ((w10.alloc (.cells #[.int .i64 q.e.op, .int .i64 q.e.n, .int .i64 q.e.m, .int .i64 q.e.kind, .int .i64 q.e.lit.k, .int .i64 q.e.lit.n, .string q.e.lit.s, .slice q.A q.e.args.length q.c, .slice q.R q.e.rels.length q.d] 30))).heap.size) (fun b hb => Below.heap_alloc w10 _ b hb.2) fun b hb => by have := hb.2; simp; omega) (fun b h => h) (by rw [hqe]; exact HIn.out) (by rw [hqe]; omega)⟩
              have HQe := Lib.hid hqe
              clear hb10 hqok hqe hbq HRq H9 x0 x1 x2 x3 x4 x5 x6 x7 x8
              unfold HE.val E.val
              go_upto_region 16 with fail
              change Code.wp _ _ _ _ (w10.alloc (.cells #[.int .i64 q.e.op, .int .i64 q.e.n, .int .i64 q.e.m, .int .i64 q.e.kind, .int .i64 q.e.lit.k, .int .i64 q.e.lit.n, .string q.e.lit.s, .slice q.A q.e.args.length q.c, .slice q.R q.e.rels.length q.d] 30))
              rw [← hg9]
              clear hg9
              generalize (w10.alloc (.cells #[.int .i64 q.e.op, .int .i64 q.e.n, .int .i64 q.e.m, .int .i64 q.e.kind, .int .i64 q.e.lit.k, .int .i64 q.e.lit.n, .string q.e.lit.s, .slice q.A q.e.args.length q.c, .slice q.R q.e.rels.length q.d] 30)) = w11 at *
              have HFq := Lib.hid (Form_any q.e q.A q.R q.c q.d w11 HT.out.2.2.2.2.n HT.out.2.2.2.2.f HT.out.2.2.2.2.a)
              have hq := HT.out.2.1
              have x0 := hq.cell 0
              have x1 := hq.cell 1
              have x2 := hq.cell 2
              have x3 := hq.cell 3
              have x4 := hq.cell 4
              have x5 := hq.cell 5
              have x6 := hq.cell 6
              have x7 := hq.cell 7
              have x8 := hq.cell 8
              simp only [List.getElem?_toArray, List.getElem?_cons_succ, List.getElem?_cons_zero] at x0 x1 x2 x3 x4 x5 x6 x7 x8
              clear hq
              cases hfq : formE q.e with
              | true =>
                have hpp : pe = q.e ∧ pf = 0 := by
                  have h1 := HPv.out
                  unfold frE frF at h1
                  rw [← HQe.out, if_neg (by decide), if_pos hfq, if_pos hfq] at h1
                  cases h1
                  exact ⟨rfl, rfl⟩
                obtain ⟨hpq, rfl⟩ := hpp
                rw [hfq] at HFq
                have HSm : Hid (∀ W, Below w11.heap.size w11 W → Calls Tryz.prog 19 #[.agg #[.int .i64 p.e.op, .int .i64 p.e.n, .int .i64 p.e.m, .int .i64 p.e.kind, .int .i64 p.e.lit.k, .int .i64 p.e.lit.n, .string p.e.lit.s, .slice p.A p.e.args.length p.c, .slice p.R p.e.rels.length p.d], .agg #[.int .i64 q.e.op, .int .i64 q.e.n, .int .i64 q.e.m, .int .i64 q.e.kind, .int .i64 q.e.lit.k, .int .i64 q.e.lit.n, .string q.e.lit.s, .slice q.A q.e.args.length q.c, .slice q.R q.e.rels.length q.d]] W fun x w2 => x = .returned (.bool true) ∧ Below W.heap.size W w2) := Lib.hid fun W hbW => by
                  have e1 : p.e = q.e := HPe.out.trans hpq
                  have k := RSame_any 1000000 p.e q.e p.A p.R p.c p.d q.A q.R q.c q.d W (by rw [e1]; exact HT.out.2.2.2.2.n) (Nat.le_refl _) (HT.out.2.2.2.1.1.below hbW hbW.size) (HT.out.2.2.2.2.below hbW).a
                  rw [e1, sameE_self] at k
                  rw [e1]
                  unfold E.val at k
                  exact k
                unfold E.val at HFq
                clear hfq hpq
                go_wp2_with fail
                refine HFq.out.mono ?_
                rintro x w12 ⟨rfl, hb12⟩
                have H12 := Lib.hid hb12
                clear hb12 HFq x0 x1 x2 x3 x4 x5 x6 x7 x8
                have hq := HT.out.2.2.1.below H12.out HT.out.2.2.1.lt
                have x0 := hq.cell 0
                have x1 := hq.cell 1
                have x2 := hq.cell 2
                have x3 := hq.cell 3
                have x4 := hq.cell 4
                have x5 := hq.cell 5
                have x6 := hq.cell 6
                have x7 := hq.cell 7
                have x8 := hq.cell 8
                simp only [List.getElem?_toArray, List.getElem?_cons_succ, List.getElem?_cons_zero] at x0 x1 x2 x3 x4 x5 x6 x7 x8
                clear hq
                have hq := HT.out.2.1.below H12.out HT.out.2.1.lt
                have y0 := hq.cell 0
                have y1 := hq.cell 1
                have y2 := hq.cell 2
                have y3 := hq.cell 3
                have y4 := hq.cell 4
                have y5 := hq.cell 5
                have y6 := hq.cell 6
                have y7 := hq.cell 7
                have y8 := hq.cell 8
                simp only [List.getElem?_toArray, List.getElem?_cons_succ, List.getElem?_cons_zero] at y0 y1 y2 y3 y4 y5 y6 y7 y8
                clear hq
                go_wp2_with fail
                refine (HSm.out w12 H12.out).mono ?_
                rintro x w13 ⟨rfl, hb13⟩
                have H13 := Lib.hid (thn (thn HT.out.1 H12.out) hb13)
                clear hb13 HSm x0 x1 x2 x3 x4 x5 x6 x7 x8 y0 y1 y2 y3 y4 y5 y6 y7 y8
                go_wp2_with fail
                refine (HAw.out w13 H13.out).mono ?_
                rintro x w14 ⟨rfl, hb14⟩
                have H14 := Lib.hid (thn HGW.out.2.2 (thn H13.out hb14))
                clear hb14
                go_wp2_with fail
                go_ret
                exact ⟨rfl, H14.out⟩
              | false =>
                have hpp : pe = zE ∧ pf = 2 := by
                  have h1 := HPv.out
                  unfold frE frF at h1
                  rw [← HQe.out, if_neg (by decide), hfq] at h1
                  cases h1
                  exact ⟨rfl, rfl⟩
                obtain ⟨rfl, rfl⟩ := hpp
                rw [hfq] at HFq
                unfold E.val at HFq
                clear hfq
                go_wp2_with fail
                refine HFq.out.mono ?_
                rintro x w12 ⟨rfl, hb12⟩
                have H12 : Hid (Below ww.heap.size ww w12 ∧ True ∧ Blk w12 g7 30 #[.int .i64 p.e.op, .int .i64 p.e.n, .int .i64 p.e.m, .int .i64 p.e.kind, .int .i64 p.e.lit.k, .int .i64 p.e.lit.n, .string p.e.lit.s, .slice p.A p.e.args.length p.c, .slice p.R p.e.rels.length p.d]) := Lib.hid ⟨thn HT.out.1 hb12, trivial, HT.out.2.2.1.below hb12 HT.out.2.2.1.lt⟩
                clear hb12 HFq x0 x1 x2 x3 x4 x5 x6 x7 x8
                have HBr : Hid (∀ W, Calls Tryz.prog 16 #[.agg #[.int .i64 p.e.op, .int .i64 p.e.n, .int .i64 p.e.m, .int .i64 p.e.kind, .int .i64 p.e.lit.k, .int .i64 p.e.lit.n, .string p.e.lit.s, .slice p.A p.e.args.length p.c, .slice p.R p.e.rels.length p.d]] W fun x w2 => x = .returned (.bool true) ∧ Below W.heap.size W w2) := Lib.hid fun W => by rw [HPe.out]; exact bare0_any p.A p.R p.c p.d W
                have hq := H12.out.2.2
                have x0 := hq.cell 0
                have x1 := hq.cell 1
                have x2 := hq.cell 2
                have x3 := hq.cell 3
                have x4 := hq.cell 4
                have x5 := hq.cell 5
                have x6 := hq.cell 6
                have x7 := hq.cell 7
                have x8 := hq.cell 8
                simp only [List.getElem?_toArray, List.getElem?_cons_succ, List.getElem?_cons_zero] at x0 x1 x2 x3 x4 x5 x6 x7 x8
                clear hq
                go_wp2_with fail
                refine (HBr.out w12).mono ?_
                rintro x w21 ⟨rfl, hb21⟩
                have H21 := Lib.hid (thn H12.out.1 hb21)
                clear hb21 HBr x0 x1 x2 x3 x4 x5 x6 x7 x8
                go_wp2_with fail
                refine (HAw.out w21 H21.out).mono ?_
                rintro x w22 ⟨rfl, hb22⟩
                have H22 := Lib.hid (thn HGW.out.2.2 (thn H21.out hb22))
                clear hb22
                go_wp2_with fail
                go_ret
                exact ⟨rfl, H22.out⟩
            · have h400i : (400 : Int) < (nodesE me : Int) := by omega
              have hpp : pe = zE ∧ pf = 2 := by
                have hnf : formE me = false := by
                  rw [Bool.eq_false_iff]
                  intro hc
                  exact h400 (formE_iff.1 hc).2
                have h1 := HPv.out
                unfold frE frF at h1
                rw [if_neg (by decide), hnf] at h1
                cases h1
                exact ⟨rfl, rfl⟩
              obtain ⟨rfl, rfl⟩ := hpp
              have h400n : 400 < nodesE me := by omega
              generalize hne : nodesE me = nn at HMy h400i h400n
              clear hne HRp h400
              go_wp2_with fail
              refine HMy.out.mono ?_
              rintro x w9 ⟨rfl, hb9⟩
              have H9 : Hid (Below ww.heap.size ww w9 ∧ Blk w9 g5 30 #[.int .i64 h.e.op, .int .i64 h.e.n, .int .i64 h.e.m, .int .i64 h.e.kind, .int .i64 h.e.lit.k, .int .i64 h.e.lit.n, .string h.e.lit.s, .slice h.A h.e.args.length h.c, .slice h.R h.e.rels.length h.d] ∧ Blk w9 g7 30 #[.int .i64 p.e.op, .int .i64 p.e.n, .int .i64 p.e.m, .int .i64 p.e.kind, .int .i64 p.e.lit.k, .int .i64 p.e.lit.n, .string p.e.lit.s, .slice p.A p.e.args.length p.c, .slice p.R p.e.rels.length p.d] ∧ p.ok w9 (Lo w9.heap.size)) := Lib.hid ⟨thn H8.out.1 hb9, H8.out.2.1.below hb9 H8.out.2.1.lt, H8.out.2.2.1.below hb9 H8.out.2.2.1.lt, H8.out.2.2.2.kept (fun b h => hb9.block b h) fun b h => Nat.lt_of_lt_of_le h hb9.size⟩
              clear hb9 HMy H8 x0 x1 x2 x3 x4 x5 x6 x7 x8
              have HBr : Hid (∀ W, Calls Tryz.prog 16 #[.agg #[.int .i64 p.e.op, .int .i64 p.e.n, .int .i64 p.e.m, .int .i64 p.e.kind, .int .i64 p.e.lit.k, .int .i64 p.e.lit.n, .string p.e.lit.s, .slice p.A p.e.args.length p.c, .slice p.R p.e.rels.length p.d]] W fun x w2 => x = .returned (.bool true) ∧ Below W.heap.size W w2) := Lib.hid fun W => by rw [HPe.out]; exact bare0_any p.A p.R p.c p.d W
              have hq := H9.out.2.2.1
              have x0 := hq.cell 0
              have x1 := hq.cell 1
              have x2 := hq.cell 2
              have x3 := hq.cell 3
              have x4 := hq.cell 4
              have x5 := hq.cell 5
              have x6 := hq.cell 6
              have x7 := hq.cell 7
              have x8 := hq.cell 8
              simp only [List.getElem?_toArray, List.getElem?_cons_succ, List.getElem?_cons_zero] at x0 x1 x2 x3 x4 x5 x6 x7 x8
              clear hq
              go_wp2_with fail
              refine (HBr.out w9).mono ?_
              rintro x w21 ⟨rfl, hb21⟩
              have H21 := Lib.hid (thn H9.out.1 hb21)
              clear hb21 HBr x0 x1 x2 x3 x4 x5 x6 x7 x8
              go_wp2_with fail
              refine (HAw.out w21 H21.out).mono ?_
              rintro x w22 ⟨rfl, hb22⟩
              have H22 := Lib.hid (thn HGW.out.2.2 (thn H21.out hb22))
              clear hb22
              go_wp2_with fail
              go_ret
              exact ⟨rfl, H22.out⟩
        · have hcl0i : decide ((0 : Int) < (cl.length : Int)) = false := decide_eq_false (by omega)
          have hbad : cl.any (badPt bys.length) = false := HL0.out (by omega)
          have hcl0n : decide (0 < cl.length) = false := decide_eq_false (by omega)
          go_upto_region 13 with fail
          clear hcl0 hcl0i hcl0n
          have hgd := HGd.out hbad
          have HPv := HPr
          rw [hbad] at HPv
          have HMy := Lib.hid (many_any bys (fun b hb => ⟨List.all_eq_true.1 hab b hb, by have := nodesL_mem hb; omega⟩) 1000 24 h.e h.A h.R h.c h.d A3 c3 w8 (by have := hf.2; omega) (Nat.le_refl _) hf.1 (E1.out.1.below H8.out.1).a (I8.out.below H8.out.1 H8.out.1.size) hgd)
          have hmx := put_many (bys := bys) hf.1 (fun b hb => by have := nodesL_mem hb; omega)
          have HIn := Lib.hid (put_inn (bys := bys) hf.1 E1.out.2 HKs.out.2.2)
          have HRp : Hid (∀ W, Below ww.heap.size ww W → Calls Tryz.prog 26 #[h.e.val h.A h.c h.R h.d, .slice A3 bys.length c3] W fun x w2 => ∃ q : HE, q.e = mapE (rpF bys) h.e ∧ x = .returned (.tuple #[q.val, .bool true]) ∧ Below W.heap.size W w2 ∧ q.ok w2 (NwB W.heap.size w2.heap.size)) := Lib.hid fun W hb => Replaced_any bys (fun b hb2 => ⟨(formE_iff.1 (List.all_eq_true.1 hab b hb2)).1, by have := nodesL_mem hb2; omega⟩) 10000 24 h.e h.A h.R h.c h.d A3 c3 W (by have := hf.2; omega) (Nat.le_refl _) hf.1 (E1.out.1.below hb).a (I8.out.below hb hb.size) hgd
          have hme : nodesE (mapE (rpF bys) h.e) ≤ 168000 := by have := hf.2; omega
          clear hgd hbad hmx HGd HPr HPs HLa HL0
          generalize hmp : mapE (rpF bys) h.e = me at *
          clear hmp
          unfold E.val at HMy HRp
          have hq := H8.out.2.1
          have x0 := hq.cell 0
          have x1 := hq.cell 1
          have x2 := hq.cell 2
          have x3 := hq.cell 3
          have x4 := hq.cell 4
          have x5 := hq.cell 5
          have x6 := hq.cell 6
          have x7 := hq.cell 7
          have x8 := hq.cell 8
          simp only [List.getElem?_toArray, List.getElem?_cons_succ, List.getElem?_cons_zero] at x0 x1 x2 x3 x4 x5 x6 x7 x8
          clear hq
          by_cases h400 : nodesE me ≤ 400
          · have h400f : decide ((400 : Int) < (nodesE me : Int)) = false := decide_eq_false (by omega)
            have h400n : decide (400 < nodesE me) = false := decide_eq_false (by omega)
            generalize hne : nodesE me = nn at HMy h400f h400n
            go_wp2_with fail
            refine HMy.out.mono ?_
            rintro x w9 ⟨rfl, hb9⟩
            have H9 : Hid (Below ww.heap.size ww w9 ∧ Blk w9 g5 30 #[.int .i64 h.e.op, .int .i64 h.e.n, .int .i64 h.e.m, .int .i64 h.e.kind, .int .i64 h.e.lit.k, .int .i64 h.e.lit.n, .string h.e.lit.s, .slice h.A h.e.args.length h.c, .slice h.R h.e.rels.length h.d] ∧ Blk w9 g7 30 #[.int .i64 p.e.op, .int .i64 p.e.n, .int .i64 p.e.m, .int .i64 p.e.kind, .int .i64 p.e.lit.k, .int .i64 p.e.lit.n, .string p.e.lit.s, .slice p.A p.e.args.length p.c, .slice p.R p.e.rels.length p.d] ∧ p.ok w9 (Lo w9.heap.size)) := Lib.hid ⟨thn H8.out.1 hb9, H8.out.2.1.below hb9 H8.out.2.1.lt, H8.out.2.2.1.below hb9 H8.out.2.2.1.lt, H8.out.2.2.2.kept (fun b h => hb9.block b h) fun b h => Nat.lt_of_lt_of_le h hb9.size⟩
            clear hb9 HMy H8 hne x0 x1 x2 x3 x4 x5 x6 x7 x8
            have HRq := Lib.hid (HRp.out w9 H9.out.1)
            clear HRp
            have hq := H9.out.2.1
            have x0 := hq.cell 0
            have x1 := hq.cell 1
            have x2 := hq.cell 2
            have x3 := hq.cell 3
            have x4 := hq.cell 4
            have x5 := hq.cell 5
            have x6 := hq.cell 6
            have x7 := hq.cell 7
            have x8 := hq.cell 8
            simp only [List.getElem?_toArray, List.getElem?_cons_succ, List.getElem?_cons_zero] at x0 x1 x2 x3 x4 x5 x6 x7 x8
            clear hq
            go_wp2_with fail
            refine HRq.out.mono ?_
            rintro x w10 ⟨q, hqe, rfl, hb10, hqok⟩
            obtain ⟨g9, hg9⟩ : ∃ g, g = w10.heap.size := ⟨_, rfl⟩
            have hbq : Below w9.heap.size w9 (w10.alloc (.cells #[.int .i64 q.e.op, .int .i64 q.e.n, .int .i64 q.e.m, .int .i64 q.e.kind, .int .i64 q.e.lit.k, .int .i64 q.e.lit.n, .string q.e.lit.s, .slice q.A q.e.args.length q.c, .slice q.R q.e.rels.length q.d] 30)) := al hb10 _
            have HT : Hid (Below ww.heap.size ww (w10.alloc (.cells #[.int .i64 q.e.op, .int .i64 q.e.n, .int .i64 q.e.m, .int .i64 q.e.kind, .int .i64 q.e.lit.k, .int .i64 q.e.lit.n, .string q.e.lit.s, .slice q.A q.e.args.length q.c, .slice q.R q.e.rels.length q.d] 30)) ∧ Blk (w10.alloc (.cells #[.int .i64 q.e.op, .int .i64 q.e.n, .int .i64 q.e.m, .int .i64 q.e.kind, .int .i64 q.e.lit.k, .int .i64 q.e.lit.n, .string q.e.lit.s, .slice q.A q.e.args.length q.c, .slice q.R q.e.rels.length q.d] 30)) g9 30 #[.int .i64 q.e.op, .int .i64 q.e.n, .int .i64 q.e.m, .int .i64 q.e.kind, .int .i64 q.e.lit.k, .int .i64 q.e.lit.n, .string q.e.lit.s, .slice q.A q.e.args.length q.c, .slice q.R q.e.rels.length q.d] ∧ Blk (w10.alloc (.cells #[.int .i64 q.e.op, .int .i64 q.e.n, .int .i64 q.e.m, .int .i64 q.e.kind, .int .i64 q.e.lit.k, .int .i64 q.e.lit.n, .string q.e.lit.s, .slice q.A q.e.args.length q.c, .slice q.R q.e.rels.length q.d] 30)) g7 30 #[.int .i64 p.e.op, .int .i64 p.e.n, .int .i64 p.e.m, .int .i64 p.e.kind, .int .i64 p.e.lit.k, .int .i64 p.e.lit.n, .string p.e.lit.s, .slice p.A p.e.args.length p.c, .slice p.R p.e.rels.length p.d] ∧ p.ok (w10.alloc (.cells #[.int .i64 q.e.op, .int .i64 q.e.n, .int .i64 q.e.m, .int .i64 q.e.kind, .int .i64 q.e.lit.k, .int .i64 q.e.lit.n, .string q.e.lit.s, .slice q.A q.e.args.length q.c, .slice q.R q.e.rels.length q.d] 30)) (Lo ((w10.alloc (.cells #[.int .i64 q.e.op, .int .i64 q.e.n, .int .i64 q.e.m, .int .i64 q.e.kind, .int .i64 q.e.lit.k, .int .i64 q.e.lit.n, .string q.e.lit.s, .slice q.A q.e.args.length q.c, .slice q.R q.e.rels.length q.d] 30))).heap.size) ∧ EHas (w10.alloc (.cells #[.int .i64 q.e.op, .int .i64 q.e.n, .int .i64 q.e.m, .int .i64 q.e.kind, .int .i64 q.e.lit.k, .int .i64 q.e.lit.n, .string q.e.lit.s, .slice q.A q.e.args.length q.c, .slice q.R q.e.rels.length q.d] 30)) q.e q.A q.R) := Lib.hid ⟨thn H9.out.1 hbq, by rw [hg9]; exact Blk.new _ _ _, H9.out.2.2.1.below hbq H9.out.2.2.1.lt, H9.out.2.2.2.kept (fun b h => hbq.block b h) (fun b h => Nat.lt_of_lt_of_le h hbq.size), EHas.of (c := q.c) (d := q.d) (hqok.kept (P' := Lo ((w10.alloc (.cells #[.int .i64 q.e.op, .int .i64 q.e.n, .int .i64 q.e.m, .int .i64 q.e.kind, .int .i64 q.e.lit.k, .int .i64 q.e.lit.n, .string q.e.lit.s, .slice q.A q.e.args.length q.c, .slice q.R q.e.rels.length q.d] 30))).heap.size) (fun b hb => Below.heap_alloc w10 _ b hb.2) fun b hb => by have := hb.2; simp; omega) (fun b h => h) (by rw [hqe]; exact HIn.out) (by rw [hqe]; omega)⟩
            have HQe := Lib.hid hqe
            clear hb10 hqok hqe hbq HRq H9 x0 x1 x2 x3 x4 x5 x6 x7 x8
            unfold HE.val E.val
            go_upto_region 16 with fail
            change Code.wp _ _ _ _ (w10.alloc (.cells #[.int .i64 q.e.op, .int .i64 q.e.n, .int .i64 q.e.m, .int .i64 q.e.kind, .int .i64 q.e.lit.k, .int .i64 q.e.lit.n, .string q.e.lit.s, .slice q.A q.e.args.length q.c, .slice q.R q.e.rels.length q.d] 30))
            rw [← hg9]
            clear hg9
            generalize (w10.alloc (.cells #[.int .i64 q.e.op, .int .i64 q.e.n, .int .i64 q.e.m, .int .i64 q.e.kind, .int .i64 q.e.lit.k, .int .i64 q.e.lit.n, .string q.e.lit.s, .slice q.A q.e.args.length q.c, .slice q.R q.e.rels.length q.d] 30)) = w11 at *
            have HFq := Lib.hid (Form_any q.e q.A q.R q.c q.d w11 HT.out.2.2.2.2.n HT.out.2.2.2.2.f HT.out.2.2.2.2.a)
            have hq := HT.out.2.1
            have x0 := hq.cell 0
            have x1 := hq.cell 1
            have x2 := hq.cell 2
            have x3 := hq.cell 3
            have x4 := hq.cell 4
            have x5 := hq.cell 5
            have x6 := hq.cell 6
            have x7 := hq.cell 7
            have x8 := hq.cell 8
            simp only [List.getElem?_toArray, List.getElem?_cons_succ, List.getElem?_cons_zero] at x0 x1 x2 x3 x4 x5 x6 x7 x8
            clear hq
            cases hfq : formE q.e with
            | true =>
              have hpp : pe = q.e ∧ pf = 0 := by
                have h1 := HPv.out
                unfold frE frF at h1
                rw [← HQe.out, if_neg (by decide), if_pos hfq, if_pos hfq] at h1
                cases h1
                exact ⟨rfl, rfl⟩
              obtain ⟨hpq, rfl⟩ := hpp
              rw [hfq] at HFq
              have HSm : Hid (∀ W, Below w11.heap.size w11 W → Calls Tryz.prog 19 #[.agg #[.int .i64 p.e.op, .int .i64 p.e.n, .int .i64 p.e.m, .int .i64 p.e.kind, .int .i64 p.e.lit.k, .int .i64 p.e.lit.n, .string p.e.lit.s, .slice p.A p.e.args.length p.c, .slice p.R p.e.rels.length p.d], .agg #[.int .i64 q.e.op, .int .i64 q.e.n, .int .i64 q.e.m, .int .i64 q.e.kind, .int .i64 q.e.lit.k, .int .i64 q.e.lit.n, .string q.e.lit.s, .slice q.A q.e.args.length q.c, .slice q.R q.e.rels.length q.d]] W fun x w2 => x = .returned (.bool true) ∧ Below W.heap.size W w2) := Lib.hid fun W hbW => by
                have e1 : p.e = q.e := HPe.out.trans hpq
                have k := RSame_any 1000000 p.e q.e p.A p.R p.c p.d q.A q.R q.c q.d W (by rw [e1]; exact HT.out.2.2.2.2.n) (Nat.le_refl _) (HT.out.2.2.2.1.1.below hbW hbW.size) (HT.out.2.2.2.2.below hbW).a
                rw [e1, sameE_self] at k
                rw [e1]
                unfold E.val at k
                exact k
              unfold E.val at HFq
              clear hfq hpq
              go_wp2_with fail
              refine HFq.out.mono ?_
              rintro x w12 ⟨rfl, hb12⟩
              have H12 := Lib.hid hb12
              clear hb12 HFq x0 x1 x2 x3 x4 x5 x6 x7 x8
              have hq := HT.out.2.2.1.below H12.out HT.out.2.2.1.lt
              have x0 := hq.cell 0
              have x1 := hq.cell 1
              have x2 := hq.cell 2
              have x3 := hq.cell 3
              have x4 := hq.cell 4
              have x5 := hq.cell 5
              have x6 := hq.cell 6
              have x7 := hq.cell 7
              have x8 := hq.cell 8
              simp only [List.getElem?_toArray, List.getElem?_cons_succ, List.getElem?_cons_zero] at x0 x1 x2 x3 x4 x5 x6 x7 x8
              clear hq
              have hq := HT.out.2.1.below H12.out HT.out.2.1.lt
              have y0 := hq.cell 0
              have y1 := hq.cell 1
              have y2 := hq.cell 2
              have y3 := hq.cell 3
              have y4 := hq.cell 4
              have y5 := hq.cell 5
              have y6 := hq.cell 6
              have y7 := hq.cell 7
              have y8 := hq.cell 8
              simp only [List.getElem?_toArray, List.getElem?_cons_succ, List.getElem?_cons_zero] at y0 y1 y2 y3 y4 y5 y6 y7 y8
              clear hq
              go_wp2_with fail
              refine (HSm.out w12 H12.out).mono ?_
              rintro x w13 ⟨rfl, hb13⟩
              have H13 := Lib.hid (thn (thn HT.out.1 H12.out) hb13)
              clear hb13 HSm x0 x1 x2 x3 x4 x5 x6 x7 x8 y0 y1 y2 y3 y4 y5 y6 y7 y8
              go_wp2_with fail
              refine (HAw.out w13 H13.out).mono ?_
              rintro x w14 ⟨rfl, hb14⟩
              have H14 := Lib.hid (thn HGW.out.2.2 (thn H13.out hb14))
              clear hb14
              go_wp2_with fail
              go_ret
              exact ⟨rfl, H14.out⟩
            | false =>
              have hpp : pe = zE ∧ pf = 2 := by
                have h1 := HPv.out
                unfold frE frF at h1
                rw [← HQe.out, if_neg (by decide), hfq] at h1
                cases h1
                exact ⟨rfl, rfl⟩
              obtain ⟨rfl, rfl⟩ := hpp
              rw [hfq] at HFq
              unfold E.val at HFq
              clear hfq
              go_wp2_with fail
              refine HFq.out.mono ?_
              rintro x w12 ⟨rfl, hb12⟩
              have H12 : Hid (Below ww.heap.size ww w12 ∧ True ∧ Blk w12 g7 30 #[.int .i64 p.e.op, .int .i64 p.e.n, .int .i64 p.e.m, .int .i64 p.e.kind, .int .i64 p.e.lit.k, .int .i64 p.e.lit.n, .string p.e.lit.s, .slice p.A p.e.args.length p.c, .slice p.R p.e.rels.length p.d]) := Lib.hid ⟨thn HT.out.1 hb12, trivial, HT.out.2.2.1.below hb12 HT.out.2.2.1.lt⟩
              clear hb12 HFq x0 x1 x2 x3 x4 x5 x6 x7 x8
              have HBr : Hid (∀ W, Calls Tryz.prog 16 #[.agg #[.int .i64 p.e.op, .int .i64 p.e.n, .int .i64 p.e.m, .int .i64 p.e.kind, .int .i64 p.e.lit.k, .int .i64 p.e.lit.n, .string p.e.lit.s, .slice p.A p.e.args.length p.c, .slice p.R p.e.rels.length p.d]] W fun x w2 => x = .returned (.bool true) ∧ Below W.heap.size W w2) := Lib.hid fun W => by rw [HPe.out]; exact bare0_any p.A p.R p.c p.d W
              have hq := H12.out.2.2
              have x0 := hq.cell 0
              have x1 := hq.cell 1
              have x2 := hq.cell 2
              have x3 := hq.cell 3
              have x4 := hq.cell 4
              have x5 := hq.cell 5
              have x6 := hq.cell 6
              have x7 := hq.cell 7
              have x8 := hq.cell 8
              simp only [List.getElem?_toArray, List.getElem?_cons_succ, List.getElem?_cons_zero] at x0 x1 x2 x3 x4 x5 x6 x7 x8
              clear hq
              go_wp2_with fail
              refine (HBr.out w12).mono ?_
              rintro x w21 ⟨rfl, hb21⟩
              have H21 := Lib.hid (thn H12.out.1 hb21)
              clear hb21 HBr x0 x1 x2 x3 x4 x5 x6 x7 x8
              go_wp2_with fail
              refine (HAw.out w21 H21.out).mono ?_
              rintro x w22 ⟨rfl, hb22⟩
              have H22 := Lib.hid (thn HGW.out.2.2 (thn H21.out hb22))
              clear hb22
              go_wp2_with fail
              go_ret
              exact ⟨rfl, H22.out⟩
          · have h400i : (400 : Int) < (nodesE me : Int) := by omega
            have hpp : pe = zE ∧ pf = 2 := by
              have hnf : formE me = false := by
                rw [Bool.eq_false_iff]
                intro hc
                exact h400 (formE_iff.1 hc).2
              have h1 := HPv.out
              unfold frE frF at h1
              rw [if_neg (by decide), hnf] at h1
              cases h1
              exact ⟨rfl, rfl⟩
            obtain ⟨rfl, rfl⟩ := hpp
            have h400n : 400 < nodesE me := by omega
            generalize hne : nodesE me = nn at HMy h400i h400n
            clear hne HRp h400
            go_wp2_with fail
            refine HMy.out.mono ?_
            rintro x w9 ⟨rfl, hb9⟩
            have H9 : Hid (Below ww.heap.size ww w9 ∧ Blk w9 g5 30 #[.int .i64 h.e.op, .int .i64 h.e.n, .int .i64 h.e.m, .int .i64 h.e.kind, .int .i64 h.e.lit.k, .int .i64 h.e.lit.n, .string h.e.lit.s, .slice h.A h.e.args.length h.c, .slice h.R h.e.rels.length h.d] ∧ Blk w9 g7 30 #[.int .i64 p.e.op, .int .i64 p.e.n, .int .i64 p.e.m, .int .i64 p.e.kind, .int .i64 p.e.lit.k, .int .i64 p.e.lit.n, .string p.e.lit.s, .slice p.A p.e.args.length p.c, .slice p.R p.e.rels.length p.d] ∧ p.ok w9 (Lo w9.heap.size)) := Lib.hid ⟨thn H8.out.1 hb9, H8.out.2.1.below hb9 H8.out.2.1.lt, H8.out.2.2.1.below hb9 H8.out.2.2.1.lt, H8.out.2.2.2.kept (fun b h => hb9.block b h) fun b h => Nat.lt_of_lt_of_le h hb9.size⟩
            clear hb9 HMy H8 x0 x1 x2 x3 x4 x5 x6 x7 x8
            have HBr : Hid (∀ W, Calls Tryz.prog 16 #[.agg #[.int .i64 p.e.op, .int .i64 p.e.n, .int .i64 p.e.m, .int .i64 p.e.kind, .int .i64 p.e.lit.k, .int .i64 p.e.lit.n, .string p.e.lit.s, .slice p.A p.e.args.length p.c, .slice p.R p.e.rels.length p.d]] W fun x w2 => x = .returned (.bool true) ∧ Below W.heap.size W w2) := Lib.hid fun W => by rw [HPe.out]; exact bare0_any p.A p.R p.c p.d W
            have hq := H9.out.2.2.1
            have x0 := hq.cell 0
            have x1 := hq.cell 1
            have x2 := hq.cell 2
            have x3 := hq.cell 3
            have x4 := hq.cell 4
            have x5 := hq.cell 5
            have x6 := hq.cell 6
            have x7 := hq.cell 7
            have x8 := hq.cell 8
            simp only [List.getElem?_toArray, List.getElem?_cons_succ, List.getElem?_cons_zero] at x0 x1 x2 x3 x4 x5 x6 x7 x8
            clear hq
            go_wp2_with fail
            refine (HBr.out w9).mono ?_
            rintro x w21 ⟨rfl, hb21⟩
            have H21 := Lib.hid (thn H9.out.1 hb21)
            clear hb21 HBr x0 x1 x2 x3 x4 x5 x6 x7 x8
            go_wp2_with fail
            refine (HAw.out w21 H21.out).mono ?_
            rintro x w22 ⟨rfl, hb22⟩
            have H22 := Lib.hid (thn HGW.out.2.2 (thn H21.out hb22))
            clear hb22
            go_wp2_with fail
            go_ret
            exact ⟨rfl, H22.out⟩
end Go.Proofs.YtdiehgfldndgbaaGreatDoor
