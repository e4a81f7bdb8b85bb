/-
  CpE: CONTRACT of scalar.copied: an expression in new memory.
  Frs: CONTRACT of scalar.fresh.
-/
import Derived.Test.YtdiehgfldndgbaaGreatDoorGA20
import Derived.Test.YtdiehgfldndgbaaGreatDoorGA17
import Derived.Test.YtdiehgfldndgbaaGreatDoorGA10
import Derived.Test.YtdiehgfldndgbaaGreatDoorGA08
import Derived.Test.YtdiehgfldndgbaaGreatDoorGA11
import Derived.Test.YtdiehgfldndgbaaGreatDoorGA18
namespace Go.Proofs.YtdiehgfldndgbaaGreatDoor
open Go.RowKit Go.Deep

/-- what has the form stays what it is -/
theorem mapE_id : ∀ (d : Nat) (e : E), shapedE d e = true → mapE id e = e := by
  intro d
  induction d with
  | zero => intro e h; rw [shapedE_zero] at h; cases h
  | succ d ih =>
    intro e h
    rw [shapedE_succ, Bool.and_eq_true] at h
    have hr := (node_cases h.1).1
    by_cases h0 : e.args = []
    · rw [mapE_leaf id e h0]
      rw [E.eta e]
      simp only [E.op, E.n, E.m, E.kind, E.lit, id, h0, hr]
    · rw [mapE_node id e h0]
      have hm : e.args.map (mapE id) = e.args := by
        refine (List.map_congr_left fun x hx => ih x (shapedL_mem h.2 x hx)).trans (List.map_id _)
      rw [hm]
      conv => rhs; rw [E.eta e]
      rw [hr]
set_option maxHeartbeats 2000000 in
set_option maxRecDepth 100000 in
theorem copied1_any (x : E) (w : World) (ha : x.args = []) (hr : x.rels = []) : Calls Tryz.prog 133 #[x.val none 0 none 0] w fun y w2 => ∃ h : HE, h.e = id x ∧ y = .returned h.val ∧ Below w.heap.size w w2 ∧ h.ok w2 (In2 0 w.heap.size w2.heap.size) := by
  have HP : Hid (Below w.heap.size w ((w.alloc (.cells #[.int .i64 x.op, .int .i64 x.n, .int .i64 x.m, .int .i64 x.kind, .int .i64 x.lit.k, .int .i64 x.lit.n, .string x.lit.s, .slice none x.args.length 0, .slice none x.rels.length 0] 30)).alloc (.cells #[.int .i64 x.op, .int .i64 x.n, .int .i64 x.m, .int .i64 x.kind, .int .i64 x.lit.k, .int .i64 x.lit.n, .string x.lit.s, .slice none x.args.length 0, .slice none x.rels.length 0] 30)) ∧ LOk ((w.alloc (.cells #[.int .i64 x.op, .int .i64 x.n, .int .i64 x.m, .int .i64 x.kind, .int .i64 x.lit.k, .int .i64 x.lit.n, .string x.lit.s, .slice none x.args.length 0, .slice none x.rels.length 0] 30)).alloc (.cells #[.int .i64 x.op, .int .i64 x.n, .int .i64 x.m, .int .i64 x.kind, .int .i64 x.lit.k, .int .i64 x.lit.n, .string x.lit.s, .slice none x.args.length 0, .slice none x.rels.length 0] 30)) (In2 0 w.heap.size ((w.alloc (.cells #[.int .i64 x.op, .int .i64 x.n, .int .i64 x.m, .int .i64 x.kind, .int .i64 x.lit.k, .int .i64 x.lit.n, .string x.lit.s, .slice none x.args.length 0, .slice none x.rels.length 0] 30)).alloc (.cells #[.int .i64 x.op, .int .i64 x.n, .int .i64 x.m, .int .i64 x.kind, .int .i64 x.lit.k, .int .i64 x.lit.n, .string x.lit.s, .slice none x.args.length 0, .slice none x.rels.length 0] 30)).heap.size) none x.args ∧ ROk ((w.alloc (.cells #[.int .i64 x.op, .int .i64 x.n, .int .i64 x.m, .int .i64 x.kind, .int .i64 x.lit.k, .int .i64 x.lit.n, .string x.lit.s, .slice none x.args.length 0, .slice none x.rels.length 0] 30)).alloc (.cells #[.int .i64 x.op, .int .i64 x.n, .int .i64 x.m, .int .i64 x.kind, .int .i64 x.lit.k, .int .i64 x.lit.n, .string x.lit.s, .slice none x.args.length 0, .slice none x.rels.length 0] 30)) (In2 0 w.heap.size ((w.alloc (.cells #[.int .i64 x.op, .int .i64 x.n, .int .i64 x.m, .int .i64 x.kind, .int .i64 x.lit.k, .int .i64 x.lit.n, .string x.lit.s, .slice none x.args.length 0, .slice none x.rels.length 0] 30)).alloc (.cells #[.int .i64 x.op, .int .i64 x.n, .int .i64 x.m, .int .i64 x.kind, .int .i64 x.lit.k, .int .i64 x.lit.n, .string x.lit.s, .slice none x.args.length 0, .slice none x.rels.length 0] 30)).heap.size) none x.rels) := Lib.hid ⟨al (al (Below.refl _ _) _) _, by rw [ha]; exact LOk.nil_, by rw [hr]; exact fun h => absurd h (Nat.lt_irrefl 0)⟩
  clear ha hr
  unfold E.val
  go_enter Tryz.func133, Tryz.ntmps133
  go_wp2_with fail
  exact bodyPost_ret (v := .agg #[.int .i64 x.op, .int .i64 x.n, .int .i64 x.m, .int .i64 x.kind, .int .i64 x.lit.k, .int .i64 x.lit.n, .string x.lit.s, .slice none x.args.length 0, .slice none x.rels.length 0]) (by simp [results, Tryz.results133, go_sem]) rfl ⟨⟨x, none, 0, none, 0⟩, rfl, rfl, HP.out.1, ⟨HP.out.2.1, HP.out.2.2⟩⟩
theorem copied_any (e : E) (A R : Option Addr) (c d q : Nat) (w : World) (hs : shapedE q e = true) (hn : nodesE e < 1000000) (hA : LOk w (Lo w.heap.size) A e.args) :
    Calls Tryz.prog 83 #[e.val A c R d] w fun x w2 => ∃ h : HE, h.e = e ∧ x = .returned h.val ∧ Below w.heap.size w w2 ∧ h.ok w2 (In2 0 w.heap.size w2.heap.size) := by
  have k := mapE_id q e hs
  refine copied_of e e A R c d 0 w (Nat.zero_le _) fun w1 hb => ?_
  have r := rebuilt_any id 133 0 w (Nat.zero_le _) (enters_of Tryz.func133 (by kernel_rfl) rfl) (fun x w1 ha hr _ => copied1_any x w1 ha hr) 1000000 e A R c d w1 hn (Nat.le_refl _) hb (hA.below hb hb.size)
  rw [k] at r
  exact r
end Go.Proofs.YtdiehgfldndgbaaGreatDoor
namespace Go.Proofs.YtdiehgfldndgbaaGreatDoor
open Go.RowKit Go.Deep

abbrev zE : E := .mk 0 0 0 0 ⟨0, 0, ⟨#[]⟩⟩ [] []
/-- the expression, if it is one -/
def frE (e : E) : E := if formE e = true then e else zE
def frF (e : E) : Int := if formE e = true then 0 else 2
abbrev zH : HE := ⟨zE, none, 0, none, 0⟩
theorem zH_ok (w : World) (P : Nat → Prop) : zH.ok w P := ⟨LOk.nil_, fun h => absurd h (Nat.lt_irrefl 0)⟩
set_option maxHeartbeats 4000000 in
set_option maxRecDepth 100000 in
theorem fresh_any (e : E) (A R : Option Addr) (c d : Nat) (w : World) (hG : GS w) (hE : EHas w e A R) :
    Calls Tryz.prog 47 #[e.val A c R d] w fun x w' => ∃ h : HE, h.e = frE e ∧ x = .returned (.tuple #[h.val, .int .i64 (frF e)]) ∧ Below w.heap.size w w' ∧ h.ok w' (NwB w.heap.size w'.heap.size) := by
  have hb0 : Below w.heap.size w ((w.alloc (.cells #[.int .i64 e.op, .int .i64 e.n, .int .i64 e.m, .int .i64 e.kind, .int .i64 e.lit.k, .int .i64 e.lit.n, .string e.lit.s, .slice A e.args.length c, .slice R e.rels.length d] 30)).alloc (.cells #[.int .i64 0, .int .i64 0, .int .i64 0, .int .i64 0, .int .i64 0, .int .i64 0, .string ⟨#[]⟩, .slice none 0 0, .slice none 0 0] 30)) := al (al (Below.refl _ _) _) _
  have HB : Hid (Below w.heap.size w ((w.alloc (.cells #[.int .i64 e.op, .int .i64 e.n, .int .i64 e.m, .int .i64 e.kind, .int .i64 e.lit.k, .int .i64 e.lit.n, .string e.lit.s, .slice A e.args.length c, .slice R e.rels.length d] 30)).alloc (.cells #[.int .i64 0, .int .i64 0, .int .i64 0, .int .i64 0, .int .i64 0, .int .i64 0, .string ⟨#[]⟩, .slice none 0 0, .slice none 0 0] 30)) ∧ Blk ((w.alloc (.cells #[.int .i64 e.op, .int .i64 e.n, .int .i64 e.m, .int .i64 e.kind, .int .i64 e.lit.k, .int .i64 e.lit.n, .string e.lit.s, .slice A e.args.length c, .slice R e.rels.length d] 30)).alloc (.cells #[.int .i64 0, .int .i64 0, .int .i64 0, .int .i64 0, .int .i64 0, .int .i64 0, .string ⟨#[]⟩, .slice none 0 0, .slice none 0 0] 30)) w.heap.size 30 #[.int .i64 e.op, .int .i64 e.n, .int .i64 e.m, .int .i64 e.kind, .int .i64 e.lit.k, .int .i64 e.lit.n, .string e.lit.s, .slice A e.args.length c, .slice R e.rels.length d] ∧ Blk ((w.alloc (.cells #[.int .i64 e.op, .int .i64 e.n, .int .i64 e.m, .int .i64 e.kind, .int .i64 e.lit.k, .int .i64 e.lit.n, .string e.lit.s, .slice A e.args.length c, .slice R e.rels.length d] 30)).alloc (.cells #[.int .i64 0, .int .i64 0, .int .i64 0, .int .i64 0, .int .i64 0, .int .i64 0, .string ⟨#[]⟩, .slice none 0 0, .slice none 0 0] 30)) (w.heap.size + 1) 30 #[.int .i64 0, .int .i64 0, .int .i64 0, .int .i64 0, .int .i64 0, .int .i64 0, .string ⟨#[]⟩, .slice none 0 0, .slice none 0 0]) := Lib.hid ⟨hb0, (Blk.new w _ _).alloc _, Blk.new' (by simp)⟩
  have HK := Lib.hid (CheckE_any e A R c d ((w.alloc (.cells #[.int .i64 e.op, .int .i64 e.n, .int .i64 e.m, .int .i64 e.kind, .int .i64 e.lit.k, .int .i64 e.lit.n, .string e.lit.s, .slice A e.args.length c, .slice R e.rels.length d] 30)).alloc (.cells #[.int .i64 0, .int .i64 0, .int .i64 0, .int .i64 0, .int .i64 0, .int .i64 0, .string ⟨#[]⟩, .slice none 0 0, .slice none 0 0] 30)) hE.n hE.f (hG.thn hb0) (hE.below hb0).a)
  rcases ckE_cases e with ⟨hq, hc⟩ | ⟨hq, hc⟩
  · have HF : Hid (frE e = e ∧ frF e = 0) := Lib.hid ⟨if_pos hq, if_pos hq⟩
    have hf := formE_iff.1 hq
    have HCp : Hid (∀ w1, Below w.heap.size w w1 → Calls Tryz.prog 83 #[e.val A c R d] w1 fun x w2 => ∃ h : HE, h.e = e ∧ x = .returned h.val ∧ Below w1.heap.size w1 w2 ∧ h.ok w2 (In2 0 w1.heap.size w2.heap.size)) := Lib.hid fun w1 hb => copied_any e A R c d 24 w1 hf.1 hE.n (hE.below hb).a
    rw [hc] at HK
    rw [HF.out.1, HF.out.2]
    clear hG hE hq hc hf hb0
    unfold E.val at HK HCp ⊢
    go_enter Tryz.func47, Tryz.ntmps47
    go_wp2_with fail
    refine HK.out.mono ?_
    rintro x w2 ⟨rfl, hb2⟩
    have H2 : Hid (Below w.heap.size w w2 ∧ Blk w2 w.heap.size 30 #[.int .i64 e.op, .int .i64 e.n, .int .i64 e.m, .int .i64 e.kind, .int .i64 e.lit.k, .int .i64 e.lit.n, .string e.lit.s, .slice A e.args.length c, .slice R e.rels.length d] ∧ Blk w2 (w.heap.size + 1) 30 #[.int .i64 0, .int .i64 0, .int .i64 0, .int .i64 0, .int .i64 0, .int .i64 0, .string ⟨#[]⟩, .slice none 0 0, .slice none 0 0]) := Lib.hid ⟨thn HB.out.1 hb2, HB.out.2.1.below hb2 HB.out.2.1.lt, HB.out.2.2.below hb2 HB.out.2.2.lt⟩
    have HCa := Lib.hid (HCp.out w2 H2.out.1)
    clear hb2 HK HCp HB
    have hq := H2.out.2.1
    have x0 := hq.cell 0
    have x1 := hq.cell 1
    have x2 := hq.cell 2
    have x3 := hq.cell 3
    have x4 := hq.cell 4
    have x5 := hq.cell 5
    have x6 := hq.cell 6
    have x7 := hq.cell 7
    have x8 := hq.cell 8
    simp only [List.getElem?_toArray, List.getElem?_cons_succ, List.getElem?_cons_zero] at x0 x1 x2 x3 x4 x5 x6 x7 x8
    clear hq
    go_wp2_with fail
    refine HCa.out.mono ?_
    rintro x w3 ⟨h, hhe, rfl, hb3, hok⟩
    have HB3 := Lib.hid (H2.out.2.2.below hb3 H2.out.2.2.lt)
    have hs2 := H2.out.2.2.lt
    have HP : Hid (h.e = e ∧ Below w.heap.size w (set9 w3 (w.heap.size + 1) (.int .i64 h.e.op) (.int .i64 h.e.n) (.int .i64 h.e.m) (.int .i64 h.e.kind) (.int .i64 h.e.lit.k) (.int .i64 h.e.lit.n) (.string h.e.lit.s) (.slice h.A h.e.args.length h.c) (.slice h.R h.e.rels.length h.d)) ∧ h.ok (set9 w3 (w.heap.size + 1) (.int .i64 h.e.op) (.int .i64 h.e.n) (.int .i64 h.e.m) (.int .i64 h.e.kind) (.int .i64 h.e.lit.k) (.int .i64 h.e.lit.n) (.string h.e.lit.s) (.slice h.A h.e.args.length h.c) (.slice h.R h.e.rels.length h.d)) (NwB w.heap.size (set9 w3 (w.heap.size + 1) (.int .i64 h.e.op) (.int .i64 h.e.n) (.int .i64 h.e.m) (.int .i64 h.e.kind) (.int .i64 h.e.lit.k) (.int .i64 h.e.lit.n) (.string h.e.lit.s) (.slice h.A h.e.args.length h.c) (.slice h.R h.e.rels.length h.d)).heap.size)) := Lib.hid ⟨hhe, st9 (thn H2.out.1 hb3) (by omega) _ _ _ _ _ _ _ _ _, hok.kept (fun b hb => set9_far _ _ _ _ _ _ _ _ _ _ _ b (by have := hb.1; simp at this; omega)) fun b hb => ⟨by have := hb.1; simp at this; omega, by rw [set9_size]; exact hb.2⟩⟩
    clear hb3 hok hhe HCa H2 x0 x1 x2 x3 x4 x5 x6 x7 x8
    unfold HE.val E.val
    have hq := HB3.out
    have hql := hq.lt
    have f0 := hq.frozen 0
    have f1 := hq.frozen 1
    have f2 := hq.frozen 2
    have f3 := hq.frozen 3
    have f4 := hq.frozen 4
    have f5 := hq.frozen 5
    have f6 := hq.frozen 6
    have f7 := hq.frozen 7
    have f8 := hq.frozen 8
    have d0 := hq.cell 0
    have d1 := hq.cell 1
    have d2 := hq.cell 2
    have d3 := hq.cell 3
    have d4 := hq.cell 4
    have d5 := hq.cell 5
    have d6 := hq.cell 6
    have d7 := hq.cell 7
    have d8 := hq.cell 8
    simp only [List.getElem?_toArray, List.getElem?_cons_succ, List.getElem?_cons_zero] at d0 d1 d2 d3 d4 d5 d6 d7 d8
    clear hq
    have HB9 := Lib.hid (HB3.out.set9_ (.int .i64 h.e.op) (.int .i64 h.e.n) (.int .i64 h.e.m) (.int .i64 h.e.kind) (.int .i64 h.e.lit.k) (.int .i64 h.e.lit.n) (.string h.e.lit.s) (.slice h.A h.e.args.length h.c) (.slice h.R h.e.rels.length h.d))
    go_wp2_with fail
    have k0 := HB9.out.cell 0
    have k1 := HB9.out.cell 1
    have k2 := HB9.out.cell 2
    have k3 := HB9.out.cell 3
    have k4 := HB9.out.cell 4
    have k5 := HB9.out.cell 5
    have k6 := HB9.out.cell 6
    have k7 := HB9.out.cell 7
    have k8 := HB9.out.cell 8
    simp at k0 k1 k2 k3 k4 k5 k6 k7 k8
    exact bodyPost_ret (v := .tuple #[.agg #[.int .i64 h.e.op, .int .i64 h.e.n, .int .i64 h.e.m, .int .i64 h.e.kind, .int .i64 h.e.lit.k, .int .i64 h.e.lit.n, .string h.e.lit.s, .slice h.A h.e.args.length h.c, .slice h.R h.e.rels.length h.d], .int .i64 0]) (by simp [results, Tryz.results47, go_sem, k0, k1, k2, k3, k4, k5, k6, k7, k8]) rfl ⟨h, HP.out.1, rfl, HP.out.2.1, HP.out.2.2⟩
  · have HF : Hid (frE e = zE ∧ frF e = 2) := Lib.hid ⟨if_neg (by rw [hq]; decide), if_neg (by rw [hq]; decide)⟩
    rw [hc] at HK
    rw [HF.out.1, HF.out.2]
    clear hG hE hq hc hb0
    unfold E.val at HK ⊢
    go_enter Tryz.func47, Tryz.ntmps47
    go_wp2_with fail
    refine HK.out.mono ?_
    rintro x w2 ⟨rfl, hb2⟩
    have H2 : Hid (Below w.heap.size w w2 ∧ Blk w2 (w.heap.size + 1) 30 #[.int .i64 0, .int .i64 0, .int .i64 0, .int .i64 0, .int .i64 0, .int .i64 0, .string ⟨#[]⟩, .slice none 0 0, .slice none 0 0]) := Lib.hid ⟨thn HB.out.1 hb2, HB.out.2.2.below hb2 HB.out.2.2.lt⟩
    clear hb2 HK HB
    have hq := H2.out.2
    have hql := hq.lt
    have f0 := hq.frozen 0
    have f1 := hq.frozen 1
    have f2 := hq.frozen 2
    have f3 := hq.frozen 3
    have f4 := hq.frozen 4
    have f5 := hq.frozen 5
    have f6 := hq.frozen 6
    have f7 := hq.frozen 7
    have f8 := hq.frozen 8
    have d0 := hq.cell 0
    have d1 := hq.cell 1
    have d2 := hq.cell 2
    have d3 := hq.cell 3
    have d4 := hq.cell 4
    have d5 := hq.cell 5
    have d6 := hq.cell 6
    have d7 := hq.cell 7
    have d8 := hq.cell 8
    simp only [List.getElem?_toArray, List.getElem?_cons_succ, List.getElem?_cons_zero] at d0 d1 d2 d3 d4 d5 d6 d7 d8
    clear hq
    have HB9 := Lib.hid (H2.out.2.set9_ (.int .i64 0) (.int .i64 0) (.int .i64 0) (.int .i64 0) (.int .i64 0) (.int .i64 0) (.string ⟨#[]⟩) (.slice none 0 0) (.slice none 0 0))
    go_wp2_with fail
    have k0 := HB9.out.cell 0
    have k1 := HB9.out.cell 1
    have k2 := HB9.out.cell 2
    have k3 := HB9.out.cell 3
    have k4 := HB9.out.cell 4
    have k5 := HB9.out.cell 5
    have k6 := HB9.out.cell 6
    have k7 := HB9.out.cell 7
    have k8 := HB9.out.cell 8
    simp at k0 k1 k2 k3 k4 k5 k6 k7 k8
    exact bodyPost_ret (v := .tuple #[.agg #[.int .i64 0, .int .i64 0, .int .i64 0, .int .i64 0, .int .i64 0, .int .i64 0, .string ⟨#[]⟩, .slice none 0 0, .slice none 0 0], .int .i64 2]) (by simp [results, Tryz.results47, go_sem, k0, k1, k2, k3, k4, k5, k6, k7, k8]) rfl ⟨zH, rfl, rfl, st9 H2.out.1 (by omega) _ _ _ _ _ _ _ _ _, zH_ok _ _⟩
end Go.Proofs.YtdiehgfldndgbaaGreatDoor
