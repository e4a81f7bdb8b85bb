/-
  THE WALK of ScalarValues.
-/
import Derived.Test.YtcbcncaoabablaaGreatDoorLKd
import Derived.Test.YtcbcncaoabablaaGreatDoorGA22
import Derived.Test.YtcbcncaoabablaaGreatDoorGA25
import Derived.Test.YtcbcncaoabablaaGreatDoorGA16
import Derived.Test.YtcbcncaoabablaaGreatDoorGA12
namespace Go.Proofs.YtcbcncaoabablaaGreatDoor
open Go.RowKit Go.Deep

theorem vreads_plain {w : World} {base : Nat} {T : TypeId} {v : Value} {l : List V} (h : w.ownsRow base T 3 v l.length (vcells l)) : ∃ (A : Option Addr) (c : Nat), v = .slice A l.length c ∧ Plain A ∧ VReads w w.heap.size A l := by
  rcases h.2 with ⟨rfl, h0⟩ | ⟨g, cap, cur, rfl, hb, hh, hnc, hcm, hcs, htk⟩
  · exact ⟨none, 0, by rw [h0], (fun ad h => by cases h), fun h1 => absurd h1 (by omega)⟩
  · obtain ⟨A, c, e, _, _, k, _⟩ := own_reads h
    injection e with e1 e2 e3
    subst e1
    exact ⟨_, cap, rfl, (fun ad h => ⟨g, 0, by injection h with h; exact h.symm⟩), k⟩
set_option maxHeartbeats 16000000 in
set_option maxRecDepth 100000 in
theorem ScalarValues_any (e : E) (A R : Option Addr) (c d : Nat) (Ac : Option Addr) (cc : Nat) (cs : List Co) (Ar : Option Addr) (cr : Nat) (row : List V) (w : World) (hG : GE w) (hS : GS w) (hI : EIn e) (hA : LOk w (Lo w.heap.size) A e.args) (hR : ROk w (Lo w.heap.size) R e.rels)
    (hC : KReads w w.heap.size Ac cs) (hcc : cs.length ≤ cc) (hcl : cs.length ≤ maxLen) (hW : VReads w w.heap.size Ar row) (hWf : VFit row) (hWl : row.length ≤ maxLen) :
    Calls Tryz.prog 5 #[e.val A c R d, .slice Ac cs.length cc, .slice Ar row.length cr] w fun x w' => x = .returned (.bool true) ∧ Below w.heap.size w w' := by
  have hb0 : Below w.heap.size w (w.alloc (.cells #[.int .i64 e.op, .int .i64 e.n, .int .i64 e.m, .int .i64 e.kind, .int .i64 e.lit.k, .int .i64 e.lit.n, .string e.lit.s, .slice A e.args.length c, .slice R e.rels.length d] 29)) := al (Below.refl _ _) _
  have HCe := Lib.hid (CutW_any e A R c d (w.alloc (.cells #[.int .i64 e.op, .int .i64 e.n, .int .i64 e.m, .int .i64 e.kind, .int .i64 e.lit.k, .int .i64 e.lit.n, .string e.lit.s, .slice A e.args.length c, .slice R e.rels.length d] 29)) hI (hA.below hb0 hb0.size) (hR.below hb0 hb0.size))
  have HCc : Hid (∀ w1, Below w.heap.size w w1 → Calls Tryz.prog 19 #[.slice Ac cs.length cc] w1 fun e w' => ∃ A' c', e = .returned (.slice A' (cs.take 18).length c') ∧ KReads w' w'.heap.size A' (cs.take 18) ∧ Below w1.heap.size w1 w') := Lib.hid fun w1 hb => CutCols_any Ac cc cs w1 (hC.below hb hb.size) hcc hcl
  have HCr : Hid (∀ w1, Below w.heap.size w w1 → Calls Tryz.prog 23 #[.slice Ar row.length cr] w1 fun e w' => ∃ A' c', e = .returned (.slice A' (cut 18 row).length c') ∧ (Plain A' ∧ VReads w' w'.heap.size A' (cut 18 row)) ∧ Below w1.heap.size w1 w') := Lib.hid fun w1 hb => (CutRow_any Ar cr row w1 (hW.below hb hb.size) hWf hWl).mono fun e w' ⟨v, h1, h2, h3⟩ => by
    obtain ⟨A', c', hv, hp, hr⟩ := vreads_plain h2
    exact ⟨A', c', by rw [h1, hv], ⟨hp, hr⟩, h3⟩
  have H0 := Lib.hid (And.intro hI (And.intro hG (And.intro hS hb0)))
  have hkl : (cs.take 18).length ≤ 18 := by rw [List.length_take]; omega
  have hrl : (cut 18 row).length ≤ 18 := by unfold cut; rw [List.length_map, List.length_take]; omega
  have hrf : VFit (cut 18 row) := cut_fit hWf
  generalize cs.take 18 = ks at *
  generalize cut 18 row = rr at *
  have HRf := Lib.hid hrf
  clear hG hS hI hA hR hC hcl hcc hb0 hW hWf hWl hrf
  unfold E.val at HCe ⊢
  go_enter Tryz.func5, Tryz.ntmps5
  go_wp2_with fail
  refine HCe.out.mono ?_
  rintro x w2 ⟨h, hh, rfl, hb2, hok⟩
  have H2 := Lib.hid (And.intro (thn H0.out.2.2.2 hb2) (And.intro hh hok))
  clear hb2 hh hok HCe
  unfold HE.val E.val
  go_wp2_with fail
  refine (HCc.out _ H2.out.1).mono ?_
  rintro x w3 ⟨A3, c3, rfl, hk3, hb3⟩
  have H3 := Lib.hid (And.intro (thn H2.out.1 hb3) (And.intro hk3 hb3))
  clear hb3 hk3
  go_wp2_with fail
  refine (HCr.out _ H3.out.1).mono ?_
  rintro x w4 ⟨A4, c4, rfl, hr4, hb4⟩
  obtain ⟨g5, hg5⟩ : ∃ g, g = w4.heap.size := ⟨_, rfl⟩
  have hb5 : Below w2.heap.size w2 (w4.alloc (.cells #[.int .i64 h.e.op, .int .i64 h.e.n, .int .i64 h.e.m, .int .i64 h.e.kind, .int .i64 h.e.lit.k, .int .i64 h.e.lit.n, .string h.e.lit.s, .slice h.A h.e.args.length h.c, .slice h.R h.e.rels.length h.d] 29)) := al (thn H3.out.2.2 hb4) _
  have h5 : h.ok (w4.alloc (.cells #[.int .i64 h.e.op, .int .i64 h.e.n, .int .i64 h.e.m, .int .i64 h.e.kind, .int .i64 h.e.lit.k, .int .i64 h.e.lit.n, .string h.e.lit.s, .slice h.A h.e.args.length h.c, .slice h.R h.e.rels.length h.d] 29)) (Lo (w4.alloc (.cells #[.int .i64 h.e.op, .int .i64 h.e.n, .int .i64 h.e.m, .int .i64 h.e.kind, .int .i64 h.e.lit.k, .int .i64 h.e.lit.n, .string h.e.lit.s, .slice h.A h.e.args.length h.c, .slice h.R h.e.rels.length h.d] 29)).heap.size) := H2.out.2.2.kept (fun b hb => hb5.block b hb.2) fun b hb => Nat.lt_of_lt_of_le hb.2 hb5.size
  have HX : Hid (EHas (w4.alloc (.cells #[.int .i64 h.e.op, .int .i64 h.e.n, .int .i64 h.e.m, .int .i64 h.e.kind, .int .i64 h.e.lit.k, .int .i64 h.e.lit.n, .string h.e.lit.s, .slice h.A h.e.args.length h.c, .slice h.R h.e.rels.length h.d] 29)) h.e h.A h.R ∧ KReads (w4.alloc (.cells #[.int .i64 h.e.op, .int .i64 h.e.n, .int .i64 h.e.m, .int .i64 h.e.kind, .int .i64 h.e.lit.k, .int .i64 h.e.lit.n, .string h.e.lit.s, .slice h.A h.e.args.length h.c, .slice h.R h.e.rels.length h.d] 29)) (w4.alloc (.cells #[.int .i64 h.e.op, .int .i64 h.e.n, .int .i64 h.e.m, .int .i64 h.e.kind, .int .i64 h.e.lit.k, .int .i64 h.e.lit.n, .string h.e.lit.s, .slice h.A h.e.args.length h.c, .slice h.R h.e.rels.length h.d] 29)).heap.size A3 ks ∧ Plain A4 ∧ VReads (w4.alloc (.cells #[.int .i64 h.e.op, .int .i64 h.e.n, .int .i64 h.e.m, .int .i64 h.e.kind, .int .i64 h.e.lit.k, .int .i64 h.e.lit.n, .string h.e.lit.s, .slice h.A h.e.args.length h.c, .slice h.R h.e.rels.length h.d] 29)) (w4.alloc (.cells #[.int .i64 h.e.op, .int .i64 h.e.n, .int .i64 h.e.m, .int .i64 h.e.kind, .int .i64 h.e.lit.k, .int .i64 h.e.lit.n, .string h.e.lit.s, .slice h.A h.e.args.length h.c, .slice h.R h.e.rels.length h.d] 29)).heap.size A4 rr) := Lib.hid ⟨(cut_has H0.out.1 H2.out.2.1 h5).1, H3.out.2.1.below (al hb4 _) (al hb4 (.cells #[.int .i64 h.e.op, .int .i64 h.e.n, .int .i64 h.e.m, .int .i64 h.e.kind, .int .i64 h.e.lit.k, .int .i64 h.e.lit.n, .string h.e.lit.s, .slice h.A h.e.args.length h.c, .slice h.R h.e.rels.length h.d] 29)).size, hr4.1, hr4.2.below (al (Below.refl _ _) _) (by simp)⟩
  have H5 : Hid (Below w.heap.size w (w4.alloc (.cells #[.int .i64 h.e.op, .int .i64 h.e.n, .int .i64 h.e.m, .int .i64 h.e.kind, .int .i64 h.e.lit.k, .int .i64 h.e.lit.n, .string h.e.lit.s, .slice h.A h.e.args.length h.c, .slice h.R h.e.rels.length h.d] 29)) ∧ Blk (w4.alloc (.cells #[.int .i64 h.e.op, .int .i64 h.e.n, .int .i64 h.e.m, .int .i64 h.e.kind, .int .i64 h.e.lit.k, .int .i64 h.e.lit.n, .string h.e.lit.s, .slice h.A h.e.args.length h.c, .slice h.R h.e.rels.length h.d] 29)) g5 29 #[.int .i64 h.e.op, .int .i64 h.e.n, .int .i64 h.e.m, .int .i64 h.e.kind, .int .i64 h.e.lit.k, .int .i64 h.e.lit.n, .string h.e.lit.s, .slice h.A h.e.args.length h.c, .slice h.R h.e.rels.length h.d]) := Lib.hid ⟨al (thn H3.out.1 hb4) _, by rw [hg5]; exact Blk.new w4 _ _⟩
  clear hb4 hb5 h5 H2 H3 HCc HCr hr4
  go_upto_region 2 with fail
  change Code.wp _ _ _ _ (w4.alloc (.cells #[.int .i64 h.e.op, .int .i64 h.e.n, .int .i64 h.e.m, .int .i64 h.e.kind, .int .i64 h.e.lit.k, .int .i64 h.e.lit.n, .string h.e.lit.s, .slice h.A h.e.args.length h.c, .slice h.R h.e.rels.length h.d] 29))
  rw [← hg5]
  clear hg5
  generalize (w4.alloc (.cells #[.int .i64 h.e.op, .int .i64 h.e.n, .int .i64 h.e.m, .int .i64 h.e.kind, .int .i64 h.e.lit.k, .int .i64 h.e.lit.n, .string h.e.lit.s, .slice h.A h.e.args.length h.c, .slice h.R h.e.rels.length h.d] 29)) = w5 at *
  have HG : Hid (∀ W, Below w.heap.size w W → GE W ∧ GS W) := Lib.hid fun W hb => ⟨H0.out.2.1.thn hb, H0.out.2.2.1.thn hb⟩
  clear H0
  have HAw : Hid (∀ W, Below w.heap.size w W → Calls Tryz.prog 13 #[] W fun x w2 => x = .returned (.bool true) ∧ Below W.heap.size W w2) := Lib.hid fun W hb => awakeE_any W (HG.out W hb).1 (HG.out W hb).2
  have HEv0 := Lib.hid (EvalP_any h.e h.A h.R h.c h.d ks A3 c3 rr A4 c4 w5 (HG.out w5 H5.out.1).2 HX.out.1 HX.out.2.1 (by omega) HX.out.2.2.2 HX.out.2.2.1 (by omega) HRf.out)
  have HB5 : Hid (∀ W, Below w5.heap.size w5 W → EHas W h.e h.A h.R ∧ KReads W W.heap.size A3 ks ∧ VReads W W.heap.size A4 rr) := Lib.hid fun W hb => ⟨HX.out.1.below hb, HX.out.2.1.below hb hb.size, HX.out.2.2.2.below hb hb.size⟩
  have heq := @eqV
  rcases knd_cases ks h.e with ⟨hr, hf⟩ | ⟨hf, hfm, kc, hr, hkc⟩
  · have hv : evlV ks rr h.e = zV := by unfold evlV; rw [if_neg (fun h => hf h.1)]
    have hvf : evlF ks rr h.e = kndF ks h.e := by unfold evlF; rw [if_pos hf]
    have hfe : (kndF ks h.e == kndF ks h.e) = true := beq_self_eq_true _
    have hfn : (kndF ks h.e != 0) = true := by rw [bne_iff_ne]; exact hf
    have hf0 : (kndF ks h.e == 0) = false := beq_eq_false_iff_ne.2 hf
    have HEv : Hid (Calls Tryz.prog 24 #[.agg #[.int .i64 h.e.op, .int .i64 h.e.n, .int .i64 h.e.m, .int .i64 h.e.kind, .int .i64 h.e.lit.k, .int .i64 h.e.lit.n, .string h.e.lit.s, .slice h.A h.e.args.length h.c, .slice h.R h.e.rels.length h.d], .slice A3 ks.length c3, .slice A4 rr.length c4] w5 fun x w' => x = .returned (.tuple #[.agg #[.int .i64 0, .int .i64 0, .string ⟨#[]⟩], .int .i64 (kndF ks h.e)]) ∧ Below w5.heap.size w5 w') := Lib.hid (by
      have k := HEv0.out
      rw [hv, hvf] at k
      unfold E.val at k
      exact k)
    clear HEv0
    have HBd : Hid (∀ W, Below w5.heap.size w5 W → Calls Tryz.prog 21 #[.agg #[.int .i64 h.e.op, .int .i64 h.e.n, .int .i64 h.e.m, .int .i64 h.e.kind, .int .i64 h.e.lit.k, .int .i64 h.e.lit.n, .string h.e.lit.s, .slice h.A h.e.args.length h.c, .slice h.R h.e.rels.length h.d], .slice A3 ks.length c3] W fun x w2 => x = .returned (.int .i64 (kndF ks h.e)) ∧ Below W.heap.size W w2) := Lib.hid fun W hb => by
      have k := bad_any h.e h.A h.R h.c h.d ks A3 c3 W (HB5.out W hb).1 (HB5.out W hb).2.1 (by omega)
      unfold E.val at k
      exact k
    clear HX HB5 hr hf hv hvf HRf hkl hrl
    generalize kndF ks h.e = f at *
    have hq := H5.out.2
    have x0 := hq.cell 0
    have x1 := hq.cell 1
    have x2 := hq.cell 2
    have x3 := hq.cell 3
    have x4 := hq.cell 4
    have x5 := hq.cell 5
    have x6 := hq.cell 6
    have x7 := hq.cell 7
    have x8 := hq.cell 8
    simp only [List.getElem?_toArray, List.getElem?_cons_succ, List.getElem?_cons_zero] at x0 x1 x2 x3 x4 x5 x6 x7 x8
    clear hq
    go_wp2_with fail
    refine HEv.out.mono ?_
    rintro x w6 ⟨rfl, hb6⟩
    obtain ⟨g7, hg7⟩ : ∃ g, g = w6.heap.size := ⟨_, rfl⟩
    have H7 : Hid (Below w5.heap.size w5 (w6.alloc (.cells #[.int .i64 0, .int .i64 0, .string ⟨#[]⟩] 25)) ∧ Blk (w6.alloc (.cells #[.int .i64 0, .int .i64 0, .string ⟨#[]⟩] 25)) g7 25 #[.int .i64 0, .int .i64 0, .string ⟨#[]⟩]) := Lib.hid ⟨al hb6 _, by rw [hg7]; exact Blk.new w6 _ _⟩
    clear x0 x1 x2 x3 x4 x5 x6 x7 x8
    clear hb6 HEv
    go_upto_region 3 with fail
    change Code.wp _ _ _ _ (w6.alloc (.cells #[.int .i64 0, .int .i64 0, .string ⟨#[]⟩] 25))
    rw [← hg7]
    clear hg7
    generalize (w6.alloc (.cells #[.int .i64 0, .int .i64 0, .string ⟨#[]⟩] 25)) = w7 at *
    have hq := H5.out.2.below H7.out.1 H5.out.2.lt
    have x0 := hq.cell 0
    have x1 := hq.cell 1
    have x2 := hq.cell 2
    have x3 := hq.cell 3
    have x4 := hq.cell 4
    have x5 := hq.cell 5
    have x6 := hq.cell 6
    have x7 := hq.cell 7
    have x8 := hq.cell 8
    simp only [List.getElem?_toArray, List.getElem?_cons_succ, List.getElem?_cons_zero] at x0 x1 x2 x3 x4 x5 x6 x7 x8
    clear hq
    go_wp2_with fail
    refine (HBd.out w7 H7.out.1).mono ?_
    rintro x w8 ⟨rfl, hb8⟩
    have H8 : Hid (Below w5.heap.size w5 w8 ∧ Blk w8 g7 25 #[.int .i64 0, .int .i64 0, .string ⟨#[]⟩]) := Lib.hid ⟨thn H7.out.1 hb8, H7.out.2.below hb8 H7.out.2.lt⟩
    clear x0 x1 x2 x3 x4 x5 x6 x7 x8
    clear hb8 HBd H7
    have hz : veq 0 0 ⟨#[]⟩ 0 0 ⟨#[]⟩ = true := veq_self _ _ _
    have hq := H8.out.2
    have z0 := hq.cell 0
    have z1 := hq.cell 1
    have z2 := hq.cell 2
    simp only [List.getElem?_toArray, List.getElem?_cons_succ, List.getElem?_cons_zero] at z0 z1 z2
    clear hq
    go_wp2_with fail
    refine (HAw.out _ (thn H5.out.1 H8.out.1)).mono ?_
    rintro x w9 ⟨rfl, hb9⟩
    have H9 := Lib.hid (thn (thn H5.out.1 H8.out.1) hb9)
    clear hb9
    clear z0 z1 z2
    go_wp2_with fail
    go_ret
    exact ⟨rfl, H9.out⟩
  · have hc0 : colsE ks = 0 := (knd_ok hf).choose_spec.2.1
    have HFt : Hid (∀ W, Below w5.heap.size w5 W → Calls Tryz.prog 25 #[.slice A3 ks.length c3, .slice A4 rr.length c4] W fun x w2 => x = .returned (.bool (eqB ks rr && rr.all V.ok)) ∧ Below W.heap.size W w2) := Lib.hid fun W hb => RFitsV_any A3 A4 c3 c4 ks rr W (HB5.out W hb).2.1 (HB5.out W hb).2.2 HRf.out (by omega) (by omega)
    have hiff := fitsE_row (row := rr) hc0
    generalize hfl : (eqB ks rr && rr.all V.ok) = fl at *
    cases fl
    · have hn0 : ¬ fitsE ks [rr] = 0 := fun h => by have := hiff.1 h; cases this
      have hv : evlV ks rr h.e = zV := by unfold evlV; rw [if_neg (fun h => hn0 h.2)]
      have hvf : evlF ks rr h.e = 20 := by unfold evlF; rw [if_neg (by omega), if_neg hn0]
      have HEv : Hid (Calls Tryz.prog 24 #[.agg #[.int .i64 h.e.op, .int .i64 h.e.n, .int .i64 h.e.m, .int .i64 h.e.kind, .int .i64 h.e.lit.k, .int .i64 h.e.lit.n, .string h.e.lit.s, .slice h.A h.e.args.length h.c, .slice h.R h.e.rels.length h.d], .slice A3 ks.length c3, .slice A4 rr.length c4] w5 fun x w' => x = .returned (.tuple #[.agg #[.int .i64 0, .int .i64 0, .string ⟨#[]⟩], .int .i64 20]) ∧ Below w5.heap.size w5 w') := Lib.hid (by
        have k := HEv0.out
        rw [hv, hvf] at k
        unfold E.val at k
        exact k)
      clear HEv0
      have HBd : Hid (∀ W, Below w5.heap.size w5 W → Calls Tryz.prog 21 #[.agg #[.int .i64 h.e.op, .int .i64 h.e.n, .int .i64 h.e.m, .int .i64 h.e.kind, .int .i64 h.e.lit.k, .int .i64 h.e.lit.n, .string h.e.lit.s, .slice h.A h.e.args.length h.c, .slice h.R h.e.rels.length h.d], .slice A3 ks.length c3] W fun x w2 => x = .returned (.int .i64 0) ∧ Below W.heap.size W w2) := Lib.hid fun W hb => by
        have k := bad_any h.e h.A h.R h.c h.d ks A3 c3 W (HB5.out W hb).1 (HB5.out W hb).2.1 (by omega)
        rw [hf] at k
        unfold E.val at k
        exact k
      clear HX HB5 hr hf hv hvf HRf hkl hrl hn0 hiff hfl hc0 hfm hkc
      have hq := H5.out.2
      have x0 := hq.cell 0
      have x1 := hq.cell 1
      have x2 := hq.cell 2
      have x3 := hq.cell 3
      have x4 := hq.cell 4
      have x5 := hq.cell 5
      have x6 := hq.cell 6
      have x7 := hq.cell 7
      have x8 := hq.cell 8
      simp only [List.getElem?_toArray, List.getElem?_cons_succ, List.getElem?_cons_zero] at x0 x1 x2 x3 x4 x5 x6 x7 x8
      clear hq
      go_wp2_with fail
      refine HEv.out.mono ?_
      rintro x w6 ⟨rfl, hb6⟩
      obtain ⟨g7, hg7⟩ : ∃ g, g = w6.heap.size := ⟨_, rfl⟩
      have H7 : Hid (Below w5.heap.size w5 (w6.alloc (.cells #[.int .i64 0, .int .i64 0, .string ⟨#[]⟩] 25)) ∧ Blk (w6.alloc (.cells #[.int .i64 0, .int .i64 0, .string ⟨#[]⟩] 25)) g7 25 #[.int .i64 0, .int .i64 0, .string ⟨#[]⟩]) := Lib.hid ⟨al hb6 _, by rw [hg7]; exact Blk.new w6 _ _⟩
      clear x0 x1 x2 x3 x4 x5 x6 x7 x8
      clear hb6 HEv
      go_upto_region 3 with fail
      change Code.wp _ _ _ _ (w6.alloc (.cells #[.int .i64 0, .int .i64 0, .string ⟨#[]⟩] 25))
      rw [← hg7]
      clear hg7
      generalize (w6.alloc (.cells #[.int .i64 0, .int .i64 0, .string ⟨#[]⟩] 25)) = w7 at *
      have hq := H5.out.2.below H7.out.1 H5.out.2.lt
      have x0 := hq.cell 0
      have x1 := hq.cell 1
      have x2 := hq.cell 2
      have x3 := hq.cell 3
      have x4 := hq.cell 4
      have x5 := hq.cell 5
      have x6 := hq.cell 6
      have x7 := hq.cell 7
      have x8 := hq.cell 8
      simp only [List.getElem?_toArray, List.getElem?_cons_succ, List.getElem?_cons_zero] at x0 x1 x2 x3 x4 x5 x6 x7 x8
      clear hq
      go_wp2_with fail
      refine (HBd.out w7 H7.out.1).mono ?_
      rintro x w8 ⟨rfl, hb8⟩
      have H8 : Hid (Below w5.heap.size w5 w8 ∧ Blk w8 g7 25 #[.int .i64 0, .int .i64 0, .string ⟨#[]⟩]) := Lib.hid ⟨thn H7.out.1 hb8, H7.out.2.below hb8 H7.out.2.lt⟩
      clear x0 x1 x2 x3 x4 x5 x6 x7 x8
      clear hb8 HBd H7
      go_wp2_with fail
      refine (HFt.out w8 H8.out.1).mono ?_
      rintro x w10 ⟨rfl, hb10⟩
      have H10 : Hid (Below w5.heap.size w5 w10 ∧ Blk w10 g7 25 #[.int .i64 0, .int .i64 0, .string ⟨#[]⟩]) := Lib.hid ⟨thn H8.out.1 hb10, H8.out.2.below hb10 H8.out.2.lt⟩
      clear hb10 H8
      have hz : veq 0 0 ⟨#[]⟩ 0 0 ⟨#[]⟩ = true := veq_self _ _ _
      have hq := H10.out.2
      have z0 := hq.cell 0
      have z1 := hq.cell 1
      have z2 := hq.cell 2
      simp only [List.getElem?_toArray, List.getElem?_cons_succ, List.getElem?_cons_zero] at z0 z1 z2
      clear hq
      go_wp2_with fail
      refine (HAw.out _ (thn H5.out.1 H10.out.1)).mono ?_
      rintro x w9 ⟨rfl, hb9⟩
      have H9 := Lib.hid (thn (thn H5.out.1 H10.out.1) hb9)
      clear hb9
      clear z0 z1 z2
      go_wp2_with fail
      go_ret
      exact ⟨rfl, H9.out⟩
    · have hy := hiff.2 rfl
      have hv : evlV ks rr h.e = evalE rr h.e := by unfold evlV; rw [if_pos ⟨hf, hy⟩]
      have hvf : evlF ks rr h.e = 0 := by unfold evlF; rw [if_neg (by omega), if_pos hy]
      obtain ⟨kx, _, _, _, hke⟩ := knd_ok hf
      have hfr := fits_row hy
      have HRe : Hid (∀ W, Below w5.heap.size w5 W → Calls Tryz.prog 26 #[.agg #[.int .i64 h.e.op, .int .i64 h.e.n, .int .i64 h.e.m, .int .i64 h.e.kind, .int .i64 h.e.lit.k, .int .i64 h.e.lit.n, .string h.e.lit.s, .slice h.A h.e.args.length h.c, .slice h.R h.e.rels.length h.d], .slice A4 rr.length c4] W fun x w' => x = .returned (.agg #[.int .i64 (evalE rr h.e).k, .int .i64 (evalE rr h.e).n, .string (evalE rr h.e).s]) ∧ Below W.heap.size W w') := Lib.hid fun W hb => by
        have k := REval_any rr ks hfr.1 hfr.2 (cols_real hc0) 1000000 24 h.e kx h.A h.R h.c h.d A4 c4 W (HB5.out W hb).1.n (Nat.le_refl _) (formE_iff.1 hfm).1 hke (HB5.out W hb).1.a (HB5.out W hb).2.2 (by omega)
        unfold E.val at k
        exact k
      have HEv : Hid (Calls Tryz.prog 24 #[.agg #[.int .i64 h.e.op, .int .i64 h.e.n, .int .i64 h.e.m, .int .i64 h.e.kind, .int .i64 h.e.lit.k, .int .i64 h.e.lit.n, .string h.e.lit.s, .slice h.A h.e.args.length h.c, .slice h.R h.e.rels.length h.d], .slice A3 ks.length c3, .slice A4 rr.length c4] w5 fun x w' => x = .returned (.tuple #[.agg #[.int .i64 (evalE rr h.e).k, .int .i64 (evalE rr h.e).n, .string (evalE rr h.e).s], .int .i64 0]) ∧ Below w5.heap.size w5 w') := Lib.hid (by
        have k := HEv0.out
        rw [hv, hvf] at k
        unfold E.val at k
        exact k)
      clear HEv0
      have HBd : Hid (∀ W, Below w5.heap.size w5 W → Calls Tryz.prog 21 #[.agg #[.int .i64 h.e.op, .int .i64 h.e.n, .int .i64 h.e.m, .int .i64 h.e.kind, .int .i64 h.e.lit.k, .int .i64 h.e.lit.n, .string h.e.lit.s, .slice h.A h.e.args.length h.c, .slice h.R h.e.rels.length h.d], .slice A3 ks.length c3] W fun x w2 => x = .returned (.int .i64 0) ∧ Below W.heap.size W w2) := Lib.hid fun W hb => by
        have k := bad_any h.e h.A h.R h.c h.d ks A3 c3 W (HB5.out W hb).1 (HB5.out W hb).2.1 (by omega)
        rw [hf] at k
        unfold E.val at k
        exact k
      clear HX HB5 hr hf hv hvf HRf hkl hrl hiff hfl hc0 hfm hkc hke hfr hy
      generalize evalE rr h.e = ev at *
      obtain ⟨ek, en, es⟩ := ev
      have hve := veq_self ek en es
      have hq := H5.out.2
      have x0 := hq.cell 0
      have x1 := hq.cell 1
      have x2 := hq.cell 2
      have x3 := hq.cell 3
      have x4 := hq.cell 4
      have x5 := hq.cell 5
      have x6 := hq.cell 6
      have x7 := hq.cell 7
      have x8 := hq.cell 8
      simp only [List.getElem?_toArray, List.getElem?_cons_succ, List.getElem?_cons_zero] at x0 x1 x2 x3 x4 x5 x6 x7 x8
      clear hq
      go_wp2_with fail
      refine HEv.out.mono ?_
      rintro x w6 ⟨rfl, hb6⟩
      obtain ⟨g7, hg7⟩ : ∃ g, g = w6.heap.size := ⟨_, rfl⟩
      have H7 : Hid (Below w5.heap.size w5 (w6.alloc (.cells #[.int .i64 ek, .int .i64 en, .string es] 25)) ∧ Blk (w6.alloc (.cells #[.int .i64 ek, .int .i64 en, .string es] 25)) g7 25 #[.int .i64 ek, .int .i64 en, .string es]) := Lib.hid ⟨al hb6 _, by rw [hg7]; exact Blk.new w6 _ _⟩
      clear x0 x1 x2 x3 x4 x5 x6 x7 x8
      clear hb6 HEv
      go_upto_region 3 with fail
      change Code.wp _ _ _ _ (w6.alloc (.cells #[.int .i64 ek, .int .i64 en, .string es] 25))
      rw [← hg7]
      clear hg7
      generalize (w6.alloc (.cells #[.int .i64 ek, .int .i64 en, .string es] 25)) = w7 at *
      have hq := H5.out.2.below H7.out.1 H5.out.2.lt
      have x0 := hq.cell 0
      have x1 := hq.cell 1
      have x2 := hq.cell 2
      have x3 := hq.cell 3
      have x4 := hq.cell 4
      have x5 := hq.cell 5
      have x6 := hq.cell 6
      have x7 := hq.cell 7
      have x8 := hq.cell 8
      simp only [List.getElem?_toArray, List.getElem?_cons_succ, List.getElem?_cons_zero] at x0 x1 x2 x3 x4 x5 x6 x7 x8
      clear hq
      go_wp2_with fail
      refine (HBd.out w7 H7.out.1).mono ?_
      rintro x w8 ⟨rfl, hb8⟩
      have H8 : Hid (Below w5.heap.size w5 w8 ∧ Blk w8 g7 25 #[.int .i64 ek, .int .i64 en, .string es]) := Lib.hid ⟨thn H7.out.1 hb8, H7.out.2.below hb8 H7.out.2.lt⟩
      clear x0 x1 x2 x3 x4 x5 x6 x7 x8
      clear hb8 HBd H7
      go_wp2_with fail
      refine (HFt.out w8 H8.out.1).mono ?_
      rintro x w10 ⟨rfl, hb10⟩
      have H10 : Hid (Below w5.heap.size w5 w10 ∧ Blk w10 g7 25 #[.int .i64 ek, .int .i64 en, .string es]) := Lib.hid ⟨thn H8.out.1 hb10, H8.out.2.below hb10 H8.out.2.lt⟩
      have H10e : Hid (Blk w10 g5 29 #[.int .i64 h.e.op, .int .i64 h.e.n, .int .i64 h.e.m, .int .i64 h.e.kind, .int .i64 h.e.lit.k, .int .i64 h.e.lit.n, .string h.e.lit.s, .slice h.A h.e.args.length h.c, .slice h.R h.e.rels.length h.d]) := Lib.hid (H5.out.2.below H10.out.1 H5.out.2.lt)
      clear hb10 H8
      go_upto_region 8 with fail
      have HRx : Hid (∀ x : Aft w10, Calls Tryz.prog 26 #[.agg #[.int .i64 h.e.op, .int .i64 h.e.n, .int .i64 h.e.m, .int .i64 h.e.kind, .int .i64 h.e.lit.k, .int .i64 h.e.lit.n, .string h.e.lit.s, .slice h.A h.e.args.length h.c, .slice h.R h.e.rels.length h.d], .slice A4 rr.length c4] x.w fun y w' => y = .returned (.agg #[.int .i64 ek, .int .i64 en, .string es]) ∧ Below x.w.heap.size x.w w') := Lib.hid fun x => HRe.out x.w (thn H10.out.1 x.h)
      have HAx : Hid (∀ x : Aft w10, Calls Tryz.prog 13 #[] x.w fun y w' => y = .returned (.bool true) ∧ Below x.w.heap.size x.w w') := Lib.hid fun x => HAw.out x.w (thn (thn H5.out.1 H10.out.1) x.h)
      have X0 : ∀ x : Aft w10, x.w.cell? ⟨g5, 0, none⟩ = some (.int .i64 h.e.op) := fun x => (x.h.cell (p := ⟨g5, 0, none⟩) H10e.out.lt).trans (H10e.out.cell 0)
      have X1 : ∀ x : Aft w10, x.w.cell? ⟨g5, 1, none⟩ = some (.int .i64 h.e.n) := fun x => (x.h.cell (p := ⟨g5, 1, none⟩) H10e.out.lt).trans (H10e.out.cell 1)
      have X2 : ∀ x : Aft w10, x.w.cell? ⟨g5, 2, none⟩ = some (.int .i64 h.e.m) := fun x => (x.h.cell (p := ⟨g5, 2, none⟩) H10e.out.lt).trans (H10e.out.cell 2)
      have X3 : ∀ x : Aft w10, x.w.cell? ⟨g5, 3, none⟩ = some (.int .i64 h.e.kind) := fun x => (x.h.cell (p := ⟨g5, 3, none⟩) H10e.out.lt).trans (H10e.out.cell 3)
      have X4 : ∀ x : Aft w10, x.w.cell? ⟨g5, 4, none⟩ = some (.int .i64 h.e.lit.k) := fun x => (x.h.cell (p := ⟨g5, 4, none⟩) H10e.out.lt).trans (H10e.out.cell 4)
      have X5 : ∀ x : Aft w10, x.w.cell? ⟨g5, 5, none⟩ = some (.int .i64 h.e.lit.n) := fun x => (x.h.cell (p := ⟨g5, 5, none⟩) H10e.out.lt).trans (H10e.out.cell 5)
      have X6 : ∀ x : Aft w10, x.w.cell? ⟨g5, 6, none⟩ = some (.string h.e.lit.s) := fun x => (x.h.cell (p := ⟨g5, 6, none⟩) H10e.out.lt).trans (H10e.out.cell 6)
      have X7 : ∀ x : Aft w10, x.w.cell? ⟨g5, 7, none⟩ = some (.slice h.A h.e.args.length h.c) := fun x => (x.h.cell (p := ⟨g5, 7, none⟩) H10e.out.lt).trans (H10e.out.cell 7)
      have X8 : ∀ x : Aft w10, x.w.cell? ⟨g5, 8, none⟩ = some (.slice h.R h.e.rels.length h.d) := fun x => (x.h.cell (p := ⟨g5, 8, none⟩) H10e.out.lt).trans (H10e.out.cell 8)
      have Z0 : ∀ x : Aft w10, x.w.cell? ⟨g7, 0, none⟩ = some (.int .i64 ek) := fun x => (x.h.cell (p := ⟨g7, 0, none⟩) H10.out.2.lt).trans (H10.out.2.cell 0)
      have Z1 : ∀ x : Aft w10, x.w.cell? ⟨g7, 1, none⟩ = some (.int .i64 en) := fun x => (x.h.cell (p := ⟨g7, 1, none⟩) H10.out.2.lt).trans (H10.out.2.cell 1)
      have Z2 : ∀ x : Aft w10, x.w.cell? ⟨g7, 2, none⟩ = some (.string es) := fun x => (x.h.cell (p := ⟨g7, 2, none⟩) H10.out.2.lt).trans (H10.out.2.cell 2)
      have H11 := Lib.hid (thn H5.out.1 H10.out.1)
      clear HAw HRe HFt H10e H10 H5
      refine region_aft (by kernel_rfl) (by kernel_rfl) ?_
      repeat (go_big_quiet_step (first | (with_reducible exact aft_call (HRx.out _)) | (with_reducible exact aft_call (HAx.out _))))
      refine wpQuiet_nil ?_
      intro x9
      have H12 := Lib.hid (thn H11.out x9.h)
      clear X0 X1 X2 X3 X4 X5 X6 X7 X8 Z0 Z1 Z2
      go_wp2_with fail
      go_ret
      exact ⟨rfl, H12.out⟩
end Go.Proofs.YtcbcncaoabablaaGreatDoor
