/-
  THE WALK of ScalarKinds.
-/
import Derived.Test.YtcbcncaoabablaaGreatDoorGA23
import Derived.Test.YtcbcncaoabablaaGreatDoorGA19
import Derived.Test.YtcbcncaoabablaaGreatDoorBad
namespace Go.Proofs.YtcbcncaoabablaaGreatDoor
open Go.RowKit Go.Deep

theorem knd_cases (cs : List Co) (e : E) : (kndR cs e = none ∧ kndF cs e ≠ 0) ∨ (kndF cs e = 0 ∧ formE e = true ∧ ∃ kc, kndR cs e = some kc ∧ kindC cs e = (kc, true)) := by
  unfold kndR kndF
  by_cases hz : colsE cs = 0
  · cases hf : formE e with
    | false => exact .inl ⟨by simp, by simp [hz]⟩
    | true =>
      have h := kindC_E cs e
      generalize kindC cs e = k at *
      obtain ⟨kc, kb⟩ := k
      cases kb
      · simp at h
        exact .inl ⟨by simp [hz, h], by simp [hz, h]⟩
      · simp at h
        exact .inr ⟨by simp [hz, h], rfl, kc, by simp [hz, h], rfl⟩
  · exact .inl ⟨by simp [hz], by simp [hz]⟩
set_option maxHeartbeats 16000000 in
set_option maxRecDepth 100000 in
theorem ScalarKinds_any (e : E) (A R : Option Addr) (c d : Nat) (Ac : Option Addr) (cc : Nat) (cs : List Co) (w : World) (hG : GE w) (hS : GS w) (hI : EIn e) (hA : LOk w (Lo w.heap.size) A e.args) (hR : ROk w (Lo w.heap.size) R e.rels)
    (hC : KReads w w.heap.size Ac cs) (hcc : cs.length ≤ cc) (hcl : cs.length ≤ maxLen) :
    Calls Tryz.prog 4 #[e.val A c R d, .slice Ac cs.length cc] w fun x w' => x = .returned (.bool true) ∧ Below w.heap.size w w' := by
  have hb0 : Below w.heap.size w (w.alloc (.cells #[.int .i64 e.op, .int .i64 e.n, .int .i64 e.m, .int .i64 e.kind, .int .i64 e.lit.k, .int .i64 e.lit.n, .string e.lit.s, .slice A e.args.length c, .slice R e.rels.length d] 29)) := al (Below.refl _ _) _
  have HCe := Lib.hid (CutW_any e A R c d (w.alloc (.cells #[.int .i64 e.op, .int .i64 e.n, .int .i64 e.m, .int .i64 e.kind, .int .i64 e.lit.k, .int .i64 e.lit.n, .string e.lit.s, .slice A e.args.length c, .slice R e.rels.length d] 29)) hI (hA.below hb0 hb0.size) (hR.below hb0 hb0.size))
  have HCc : Hid (∀ w1, Below w.heap.size w w1 → Calls Tryz.prog 19 #[.slice Ac cs.length cc] w1 fun e w' => ∃ A' c', e = .returned (.slice A' (cs.take 18).length c') ∧ KReads w' w'.heap.size A' (cs.take 18) ∧ Below w1.heap.size w1 w') := Lib.hid fun w1 hb => CutCols_any Ac cc cs w1 (hC.below hb hb.size) hcc hcl
  have H0 := Lib.hid (And.intro hI (And.intro hG (And.intro hS hb0)))
  have hkl : (cs.take 18).length ≤ 18 := by rw [List.length_take]; omega
  generalize cs.take 18 = ks at *
  clear hG hS hI hA hR hC hcl hcc hb0
  unfold E.val at HCe ⊢
  go_enter Tryz.func4, Tryz.ntmps4
  go_wp2_with fail
  refine HCe.out.mono ?_
  rintro x w2 ⟨h, hh, rfl, hb2, hok⟩
  have H2 := Lib.hid (And.intro (thn H0.out.2.2.2 hb2) (And.intro hh hok))
  clear hb2 hh hok HCe
  unfold HE.val E.val
  go_wp2_with fail
  refine (HCc.out _ H2.out.1).mono ?_
  rintro x w3 ⟨A3, c3, rfl, hk3, hb3⟩
  obtain ⟨g5, hg5⟩ : ∃ g, g = w3.heap.size := ⟨_, rfl⟩
  have hb4 : Below w2.heap.size w2 (w3.alloc (.cells #[.int .i64 h.e.op, .int .i64 h.e.n, .int .i64 h.e.m, .int .i64 h.e.kind, .int .i64 h.e.lit.k, .int .i64 h.e.lit.n, .string h.e.lit.s, .slice h.A h.e.args.length h.c, .slice h.R h.e.rels.length h.d] 29)) := al hb3 _
  have h4 : h.ok (w3.alloc (.cells #[.int .i64 h.e.op, .int .i64 h.e.n, .int .i64 h.e.m, .int .i64 h.e.kind, .int .i64 h.e.lit.k, .int .i64 h.e.lit.n, .string h.e.lit.s, .slice h.A h.e.args.length h.c, .slice h.R h.e.rels.length h.d] 29)) (Lo (w3.alloc (.cells #[.int .i64 h.e.op, .int .i64 h.e.n, .int .i64 h.e.m, .int .i64 h.e.kind, .int .i64 h.e.lit.k, .int .i64 h.e.lit.n, .string h.e.lit.s, .slice h.A h.e.args.length h.c, .slice h.R h.e.rels.length h.d] 29)).heap.size) := H2.out.2.2.kept (fun b hb => hb4.block b hb.2) fun b hb => Nat.lt_of_lt_of_le hb.2 hb4.size
  have HX := Lib.hid (And.intro (cut_has H0.out.1 H2.out.2.1 h4).1 (hk3.below (al (Below.refl _ _) (.cells #[.int .i64 h.e.op, .int .i64 h.e.n, .int .i64 h.e.m, .int .i64 h.e.kind, .int .i64 h.e.lit.k, .int .i64 h.e.lit.n, .string h.e.lit.s, .slice h.A h.e.args.length h.c, .slice h.R h.e.rels.length h.d] 29)) (by simp) : KReads _ (w3.alloc (.cells #[.int .i64 h.e.op, .int .i64 h.e.n, .int .i64 h.e.m, .int .i64 h.e.kind, .int .i64 h.e.lit.k, .int .i64 h.e.lit.n, .string h.e.lit.s, .slice h.A h.e.args.length h.c, .slice h.R h.e.rels.length h.d] 29)).heap.size _ _))
  have H4 : Hid (Below w.heap.size w (w3.alloc (.cells #[.int .i64 h.e.op, .int .i64 h.e.n, .int .i64 h.e.m, .int .i64 h.e.kind, .int .i64 h.e.lit.k, .int .i64 h.e.lit.n, .string h.e.lit.s, .slice h.A h.e.args.length h.c, .slice h.R h.e.rels.length h.d] 29)) ∧ Blk (w3.alloc (.cells #[.int .i64 h.e.op, .int .i64 h.e.n, .int .i64 h.e.m, .int .i64 h.e.kind, .int .i64 h.e.lit.k, .int .i64 h.e.lit.n, .string h.e.lit.s, .slice h.A h.e.args.length h.c, .slice h.R h.e.rels.length h.d] 29)) g5 29 #[.int .i64 h.e.op, .int .i64 h.e.n, .int .i64 h.e.m, .int .i64 h.e.kind, .int .i64 h.e.lit.k, .int .i64 h.e.lit.n, .string h.e.lit.s, .slice h.A h.e.args.length h.c, .slice h.R h.e.rels.length h.d]) := Lib.hid ⟨thn H2.out.1 hb4, by rw [hg5]; exact Blk.new w3 _ _⟩
  clear hb3 hb4 hk3 h4 H2 HCc
  go_upto_region 2 with fail
  change Code.wp _ _ _ _ (w3.alloc (.cells #[.int .i64 h.e.op, .int .i64 h.e.n, .int .i64 h.e.m, .int .i64 h.e.kind, .int .i64 h.e.lit.k, .int .i64 h.e.lit.n, .string h.e.lit.s, .slice h.A h.e.args.length h.c, .slice h.R h.e.rels.length h.d] 29))
  rw [← hg5]
  clear hg5
  generalize w3.alloc (.cells #[.int .i64 h.e.op, .int .i64 h.e.n, .int .i64 h.e.m, .int .i64 h.e.kind, .int .i64 h.e.lit.k, .int .i64 h.e.lit.n, .string h.e.lit.s, .slice h.A h.e.args.length h.c, .slice h.R h.e.rels.length h.d] 29) = w4 at *
  have HG : Hid (∀ W, Below w.heap.size w W → GE W ∧ GS W) := Lib.hid fun W hb => ⟨H0.out.2.1.thn hb, H0.out.2.2.1.thn hb⟩
  clear H0
  have HAw : Hid (∀ W, Below w.heap.size w W → Calls Tryz.prog 13 #[] W fun x w2 => x = .returned (.bool true) ∧ Below W.heap.size W w2) := Lib.hid fun W hb => awakeE_any W (HG.out W hb).1 (HG.out W hb).2
  have HKn := Lib.hid (KindP_any h.e h.A h.R h.c h.d ks A3 c3 w4 (HG.out w4 H4.out.1).2 HX.out.1 HX.out.2 (by omega))
  have HB4 : Hid (∀ W, Below w.heap.size w W → Below w4.heap.size w4 W → EHas W h.e h.A h.R ∧ KReads W W.heap.size A3 ks) := Lib.hid fun W _ hb => ⟨HX.out.1.below hb, HX.out.2.below hb hb.size⟩
  unfold E.val at HKn
  have hq := H4.out.2
  have x0 := hq.cell 0
  have x1 := hq.cell 1
  have x2 := hq.cell 2
  have x3 := hq.cell 3
  have x4 := hq.cell 4
  have x5 := hq.cell 5
  have x6 := hq.cell 6
  have x7 := hq.cell 7
  have x8 := hq.cell 8
  simp only [List.getElem?_toArray, List.getElem?_cons_succ, List.getElem?_cons_zero] at x0 x1 x2 x3 x4 x5 x6 x7 x8
  clear hq
  rcases knd_cases ks h.e with ⟨hr, hf⟩ | ⟨hf, hfm, ⟨kc1, kc2⟩, hr, hkc⟩
  · have hfe : (kndF ks h.e == kndF ks h.e) = true := beq_self_eq_true _
    have hfn : (kndF ks h.e != 0) = true := by rw [bne_iff_ne]; exact hf
    rw [hr] at HKn
    unfold coV at HKn
    clear hr hf
    have HBd : Hid (∀ W, Below w.heap.size w W → Below w4.heap.size w4 W → Calls Tryz.prog 21 #[.agg #[.int .i64 h.e.op, .int .i64 h.e.n, .int .i64 h.e.m, .int .i64 h.e.kind, .int .i64 h.e.lit.k, .int .i64 h.e.lit.n, .string h.e.lit.s, .slice h.A h.e.args.length h.c, .slice h.R h.e.rels.length h.d], .slice A3 ks.length c3] W fun x w2 => x = .returned (.int .i64 (kndF ks h.e)) ∧ Below W.heap.size W w2) := Lib.hid fun W hb hb4 => by
      have k := bad_any h.e h.A h.R h.c h.d ks A3 c3 W (HB4.out W hb hb4).1 (HB4.out W hb hb4).2 (by omega)
      unfold E.val at k
      exact k
    clear HX HB4
    generalize kndF ks h.e = f at *
    go_wp2_with fail
    refine HKn.out.mono ?_
    rintro x w5 ⟨rfl, hb5⟩
    have H45 := Lib.hid (al hb5 (.cells #[.int .i64 0, .bool false] 50))
    obtain ⟨g7, hg7⟩ : ∃ g, g = w5.heap.size := ⟨_, rfl⟩
    have H5 : Hid (Below w.heap.size w (w5.alloc (.cells #[.int .i64 0, .bool false] 50)) ∧ Blk (w5.alloc (.cells #[.int .i64 0, .bool false] 50)) g5 29 #[.int .i64 h.e.op, .int .i64 h.e.n, .int .i64 h.e.m, .int .i64 h.e.kind, .int .i64 h.e.lit.k, .int .i64 h.e.lit.n, .string h.e.lit.s, .slice h.A h.e.args.length h.c, .slice h.R h.e.rels.length h.d] ∧ Blk (w5.alloc (.cells #[.int .i64 0, .bool false] 50)) g7 50 #[.int .i64 0, .bool false]) := Lib.hid ⟨al (thn H4.out.1 hb5) _, (H4.out.2.below hb5 H4.out.2.lt).alloc _, by rw [hg7]; exact Blk.new w5 _ _⟩
    clear hb5 x0 x1 x2 x3 x4 x5 x6 x7 x8
    go_upto_region 3 with fail
    change Code.wp _ _ _ _ (w5.alloc (.cells #[.int .i64 0, .bool false] 50))
    rw [← hg7]
    clear hg7
    generalize w5.alloc (.cells #[.int .i64 0, .bool false] 50) = w6 at *
    have hq := H5.out.2.1
    have x0 := hq.cell 0
    have x1 := hq.cell 1
    have x2 := hq.cell 2
    have x3 := hq.cell 3
    have x4 := hq.cell 4
    have x5 := hq.cell 5
    have x6 := hq.cell 6
    have x7 := hq.cell 7
    have x8 := hq.cell 8
    simp only [List.getElem?_toArray, List.getElem?_cons_succ, List.getElem?_cons_zero] at x0 x1 x2 x3 x4 x5 x6 x7 x8
    clear hq
    go_wp2_with fail
    refine (HBd.out w6 H5.out.1 H45.out).mono ?_
    rintro x w7 ⟨rfl, hb7⟩
    have H7 : Hid (Below w.heap.size w w7 ∧ Blk w7 g5 29 #[.int .i64 h.e.op, .int .i64 h.e.n, .int .i64 h.e.m, .int .i64 h.e.kind, .int .i64 h.e.lit.k, .int .i64 h.e.lit.n, .string h.e.lit.s, .slice h.A h.e.args.length h.c, .slice h.R h.e.rels.length h.d] ∧ Blk w7 g7 50 #[.int .i64 0, .bool false]) := Lib.hid ⟨thn H5.out.1 hb7, H5.out.2.1.below hb7 H5.out.2.1.lt, H5.out.2.2.below hb7 H5.out.2.2.lt⟩
    have H47 := Lib.hid (thn H45.out hb7)
    clear hb7 x0 x1 x2 x3 x4 x5 x6 x7 x8
    have hq := H7.out.2.2
    have z0 := hq.cell 0
    have z1 := hq.cell 1
    simp only [List.getElem?_toArray, List.getElem?_cons_succ, List.getElem?_cons_zero] at z0 z1
    clear hq
    go_wp2_with fail
    refine (HAw.out _ H7.out.1).mono ?_
    rintro x w8 ⟨rfl, hb8⟩
    have H8 := Lib.hid (thn H7.out.1 hb8)
    clear hb8
    go_wp2_with fail
    go_ret
    exact ⟨rfl, H8.out⟩
  · rw [hr, hf] at HKn
    unfold coV at HKn
    clear hr
    have HBd : Hid (∀ W, Below w.heap.size w W → Below w4.heap.size w4 W → Calls Tryz.prog 21 #[.agg #[.int .i64 h.e.op, .int .i64 h.e.n, .int .i64 h.e.m, .int .i64 h.e.kind, .int .i64 h.e.lit.k, .int .i64 h.e.lit.n, .string h.e.lit.s, .slice h.A h.e.args.length h.c, .slice h.R h.e.rels.length h.d], .slice A3 ks.length c3] W fun x w2 => x = .returned (.int .i64 (kndF ks h.e)) ∧ Below W.heap.size W w2) := Lib.hid fun W hb hb4 => by
      have k := bad_any h.e h.A h.R h.c h.d ks A3 c3 W (HB4.out W hb hb4).1 (HB4.out W hb hb4).2 (by omega)
      unfold E.val at k
      exact k
    rw [hf] at HBd
    have HRk : Hid (∀ W, Below w.heap.size w W → Below w4.heap.size w4 W → Calls Tryz.prog 22 #[.agg #[.int .i64 h.e.op, .int .i64 h.e.n, .int .i64 h.e.m, .int .i64 h.e.kind, .int .i64 h.e.lit.k, .int .i64 h.e.lit.n, .string h.e.lit.s, .slice h.A h.e.args.length h.c, .slice h.R h.e.rels.length h.d], .slice A3 ks.length c3] W fun x w' => x = .returned (.tuple #[.agg #[.int .i64 kc1, .bool kc2], .bool true]) ∧ Below W.heap.size W w') := Lib.hid fun W hb hb4 => by
      have k := RKind_any 1000000 24 h.e h.A h.R h.c h.d ks A3 c3 W (HB4.out W hb hb4).1.n (Nat.le_refl _) (formE_iff.1 hfm).1 (HB4.out W hb hb4).1.a (HB4.out W hb hb4).2 (by omega)
      rw [hkc] at k
      unfold E.val at k
      exact k
    clear HX HB4 hf hfm hkc
    have hkk : (kc1 == kc1) = true := beq_self_eq_true _
    have hnn : (kc2 == kc2) = true := beq_self_eq_true _
    go_wp2_with fail
    refine HKn.out.mono ?_
    rintro x w5 ⟨rfl, hb5⟩
    have H45 := Lib.hid (al hb5 (.cells #[.int .i64 kc1, .bool kc2] 50))
    obtain ⟨g7, hg7⟩ : ∃ g, g = w5.heap.size := ⟨_, rfl⟩
    have H5 : Hid (Below w.heap.size w (w5.alloc (.cells #[.int .i64 kc1, .bool kc2] 50)) ∧ Blk (w5.alloc (.cells #[.int .i64 kc1, .bool kc2] 50)) g5 29 #[.int .i64 h.e.op, .int .i64 h.e.n, .int .i64 h.e.m, .int .i64 h.e.kind, .int .i64 h.e.lit.k, .int .i64 h.e.lit.n, .string h.e.lit.s, .slice h.A h.e.args.length h.c, .slice h.R h.e.rels.length h.d] ∧ Blk (w5.alloc (.cells #[.int .i64 kc1, .bool kc2] 50)) g7 50 #[.int .i64 kc1, .bool kc2]) := Lib.hid ⟨al (thn H4.out.1 hb5) _, (H4.out.2.below hb5 H4.out.2.lt).alloc _, by rw [hg7]; exact Blk.new w5 _ _⟩
    clear hb5 x0 x1 x2 x3 x4 x5 x6 x7 x8
    go_upto_region 3 with fail
    change Code.wp _ _ _ _ (w5.alloc (.cells #[.int .i64 kc1, .bool kc2] 50))
    rw [← hg7]
    clear hg7
    generalize w5.alloc (.cells #[.int .i64 kc1, .bool kc2] 50) = w6 at *
    have hq := H5.out.2.1
    have x0 := hq.cell 0
    have x1 := hq.cell 1
    have x2 := hq.cell 2
    have x3 := hq.cell 3
    have x4 := hq.cell 4
    have x5 := hq.cell 5
    have x6 := hq.cell 6
    have x7 := hq.cell 7
    have x8 := hq.cell 8
    simp only [List.getElem?_toArray, List.getElem?_cons_succ, List.getElem?_cons_zero] at x0 x1 x2 x3 x4 x5 x6 x7 x8
    clear hq
    go_wp2_with fail
    refine (HBd.out w6 H5.out.1 H45.out).mono ?_
    rintro x w7 ⟨rfl, hb7⟩
    have H7 : Hid (Below w.heap.size w w7 ∧ Blk w7 g5 29 #[.int .i64 h.e.op, .int .i64 h.e.n, .int .i64 h.e.m, .int .i64 h.e.kind, .int .i64 h.e.lit.k, .int .i64 h.e.lit.n, .string h.e.lit.s, .slice h.A h.e.args.length h.c, .slice h.R h.e.rels.length h.d] ∧ Blk w7 g7 50 #[.int .i64 kc1, .bool kc2]) := Lib.hid ⟨thn H5.out.1 hb7, H5.out.2.1.below hb7 H5.out.2.1.lt, H5.out.2.2.below hb7 H5.out.2.2.lt⟩
    have H47 := Lib.hid (thn H45.out hb7)
    clear hb7 x0 x1 x2 x3 x4 x5 x6 x7 x8
    have hq := H7.out.2.1
    have x0 := hq.cell 0
    have x1 := hq.cell 1
    have x2 := hq.cell 2
    have x3 := hq.cell 3
    have x4 := hq.cell 4
    have x5 := hq.cell 5
    have x6 := hq.cell 6
    have x7 := hq.cell 7
    have x8 := hq.cell 8
    simp only [List.getElem?_toArray, List.getElem?_cons_succ, List.getElem?_cons_zero] at x0 x1 x2 x3 x4 x5 x6 x7 x8
    clear hq
    go_wp2_with fail
    refine (HRk.out w7 H7.out.1 H47.out).mono ?_
    rintro x w8 ⟨rfl, hb8⟩
    obtain ⟨g10, hg10⟩ : ∃ g, g = w8.heap.size := ⟨_, rfl⟩
    have H9 : Hid (Below w.heap.size w (w8.alloc (.cells #[.int .i64 kc1, .bool kc2] 50)) ∧ Blk (w8.alloc (.cells #[.int .i64 kc1, .bool kc2] 50)) g7 50 #[.int .i64 kc1, .bool kc2] ∧ Blk (w8.alloc (.cells #[.int .i64 kc1, .bool kc2] 50)) g10 50 #[.int .i64 kc1, .bool kc2]) := Lib.hid ⟨al (thn H7.out.1 hb8) _, (H7.out.2.2.below hb8 H7.out.2.2.lt).alloc _, by rw [hg10]; exact Blk.new w8 _ _⟩
    clear hb8 x0 x1 x2 x3 x4 x5 x6 x7 x8
    go_upto_region 7 with fail
    change Code.wp _ _ _ _ (w8.alloc (.cells #[.int .i64 kc1, .bool kc2] 50))
    rw [← hg10]
    clear hg10
    generalize w8.alloc (.cells #[.int .i64 kc1, .bool kc2] 50) = w9 at *
    have hq := H9.out.2.1
    have y0 := hq.cell 0
    have y1 := hq.cell 1
    simp only [List.getElem?_toArray, List.getElem?_cons_succ, List.getElem?_cons_zero] at y0 y1
    clear hq
    have hq := H9.out.2.2
    have z0 := hq.cell 0
    have z1 := hq.cell 1
    simp only [List.getElem?_toArray, List.getElem?_cons_succ, List.getElem?_cons_zero] at z0 z1
    clear hq
    go_wp2_with fail
    refine (HAw.out _ H9.out.1).mono ?_
    rintro x w10 ⟨rfl, hb10⟩
    have H10 := Lib.hid (thn H9.out.1 hb10)
    clear hb10
    go_wp2_with fail
    go_ret
    exact ⟨rfl, H10.out⟩
end Go.Proofs.YtcbcncaoabablaaGreatDoor
