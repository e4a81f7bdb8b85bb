/-
  CpE: CONTRACT of scalar.copied: an expression in new memory.
  LsE: CONTRACT of scalar.each from expressions to lists of expressions.
-/
import Derived.Test.YtcbcncaoabablaaGreatDoorGA19
import Derived.Test.YtcbcncaoabablaaGreatDoorGA16
namespace Go.Proofs.YtcbcncaoabablaaGreatDoor
open Go.RowKit Go.Deep

/-- what has the form stays what it is -/
theorem mapE_id : ∀ (d : Nat) (e : E), shapedE d e = true → mapE id e = e := by
  intro d
  induction d with
  | zero => intro e h; rw [shapedE_zero] at h; cases h
  | succ d ih =>
    intro e h
    rw [shapedE_succ, Bool.and_eq_true] at h
    have hr := (node_cases h.1).1
    by_cases h0 : e.args = []
    · rw [mapE_leaf id e h0]
      rw [E.eta e]
      simp only [E.op, E.n, E.m, E.kind, E.lit, id, h0, hr]
    · rw [mapE_node id e h0]
      have hm : e.args.map (mapE id) = e.args := by
        refine (List.map_congr_left fun x hx => ih x (shapedL_mem h.2 x hx)).trans (List.map_id _)
      rw [hm]
      conv => rhs; rw [E.eta e]
      rw [hr]
set_option maxHeartbeats 2000000 in
set_option maxRecDepth 100000 in
theorem copied1_any (x : E) (w : World) (ha : x.args = []) (hr : x.rels = []) : Calls Tryz.prog 110 #[x.val none 0 none 0] w fun y w2 => ∃ h : HE, h.e = id x ∧ y = .returned h.val ∧ Below w.heap.size w w2 ∧ h.ok w2 (In2 0 w.heap.size w2.heap.size) := by
  have HP : Hid (Below w.heap.size w ((w.alloc (.cells #[.int .i64 x.op, .int .i64 x.n, .int .i64 x.m, .int .i64 x.kind, .int .i64 x.lit.k, .int .i64 x.lit.n, .string x.lit.s, .slice none x.args.length 0, .slice none x.rels.length 0] 29)).alloc (.cells #[.int .i64 x.op, .int .i64 x.n, .int .i64 x.m, .int .i64 x.kind, .int .i64 x.lit.k, .int .i64 x.lit.n, .string x.lit.s, .slice none x.args.length 0, .slice none x.rels.length 0] 29)) ∧ LOk ((w.alloc (.cells #[.int .i64 x.op, .int .i64 x.n, .int .i64 x.m, .int .i64 x.kind, .int .i64 x.lit.k, .int .i64 x.lit.n, .string x.lit.s, .slice none x.args.length 0, .slice none x.rels.length 0] 29)).alloc (.cells #[.int .i64 x.op, .int .i64 x.n, .int .i64 x.m, .int .i64 x.kind, .int .i64 x.lit.k, .int .i64 x.lit.n, .string x.lit.s, .slice none x.args.length 0, .slice none x.rels.length 0] 29)) (In2 0 w.heap.size ((w.alloc (.cells #[.int .i64 x.op, .int .i64 x.n, .int .i64 x.m, .int .i64 x.kind, .int .i64 x.lit.k, .int .i64 x.lit.n, .string x.lit.s, .slice none x.args.length 0, .slice none x.rels.length 0] 29)).alloc (.cells #[.int .i64 x.op, .int .i64 x.n, .int .i64 x.m, .int .i64 x.kind, .int .i64 x.lit.k, .int .i64 x.lit.n, .string x.lit.s, .slice none x.args.length 0, .slice none x.rels.length 0] 29)).heap.size) none x.args ∧ ROk ((w.alloc (.cells #[.int .i64 x.op, .int .i64 x.n, .int .i64 x.m, .int .i64 x.kind, .int .i64 x.lit.k, .int .i64 x.lit.n, .string x.lit.s, .slice none x.args.length 0, .slice none x.rels.length 0] 29)).alloc (.cells #[.int .i64 x.op, .int .i64 x.n, .int .i64 x.m, .int .i64 x.kind, .int .i64 x.lit.k, .int .i64 x.lit.n, .string x.lit.s, .slice none x.args.length 0, .slice none x.rels.length 0] 29)) (In2 0 w.heap.size ((w.alloc (.cells #[.int .i64 x.op, .int .i64 x.n, .int .i64 x.m, .int .i64 x.kind, .int .i64 x.lit.k, .int .i64 x.lit.n, .string x.lit.s, .slice none x.args.length 0, .slice none x.rels.length 0] 29)).alloc (.cells #[.int .i64 x.op, .int .i64 x.n, .int .i64 x.m, .int .i64 x.kind, .int .i64 x.lit.k, .int .i64 x.lit.n, .string x.lit.s, .slice none x.args.length 0, .slice none x.rels.length 0] 29)).heap.size) none x.rels) := Lib.hid ⟨al (al (Below.refl _ _) _) _, by rw [ha]; exact LOk.nil_, by rw [hr]; exact fun h => absurd h (Nat.lt_irrefl 0)⟩
  clear ha hr
  unfold E.val
  go_enter Tryz.func110, Tryz.ntmps110
  go_wp2_with fail
  exact bodyPost_ret (v := .agg #[.int .i64 x.op, .int .i64 x.n, .int .i64 x.m, .int .i64 x.kind, .int .i64 x.lit.k, .int .i64 x.lit.n, .string x.lit.s, .slice none x.args.length 0, .slice none x.rels.length 0]) (by simp [results, Tryz.results110, go_sem]) rfl ⟨⟨x, none, 0, none, 0⟩, rfl, rfl, HP.out.1, ⟨HP.out.2.1, HP.out.2.2⟩⟩
theorem copied_any (e : E) (A R : Option Addr) (c d q : Nat) (w : World) (hs : shapedE q e = true) (hn : nodesE e < 1000000) (hA : LOk w (Lo w.heap.size) A e.args) :
    Calls Tryz.prog 62 #[e.val A c R d] w fun x w2 => ∃ h : HE, h.e = e ∧ x = .returned h.val ∧ Below w.heap.size w w2 ∧ h.ok w2 (In2 0 w.heap.size w2.heap.size) := by
  have k := mapE_id q e hs
  refine copied_of e e A R c d 0 w (Nat.zero_le _) fun w1 hb => ?_
  have r := rebuilt_any id 110 0 w (Nat.zero_le _) (enters_of Tryz.func110 (by kernel_rfl) rfl) (fun x w1 ha hr _ => copied1_any x w1 ha hr) 1000000 e A R c d w1 hn (Nat.le_refl _) hb (hA.below hb hb.size)
  rw [k] at r
  exact r
end Go.Proofs.YtcbcncaoabablaaGreatDoor
namespace Go.Proofs.YtcbcncaoabablaaGreatDoor
open Go.RowKit Go.Deep

theorem infoLs : (Tryz.prog.info? 26).map (fun i => (i.zero, i.size, i.bytes)) = some (some (.slice none 0 0), 1, 24) := by kernel_rfl
theorem makeLs (n : Nat) (hn : n ≤ 1000000) (w : World) : (Instr.makeSlice 106 (.int .i64 (n : Int)) (.int .i64 (n : Int))).run Tryz.prog w = .ok (.slice (some ⟨w.heap.size, 0, none⟩) n n) (w.alloc (.cells (madeCells #[.slice none 0 0] n) 26)) :=
  run_make_row' (P := Tryz.prog) 106 26 (.slice none 0 0) 24 Tryz.underlying106 infoLs rfl .i64 .i64 n (by omega) (by omega) w
set_option maxHeartbeats 4000000 in
set_option maxRecDepth 100000 in
theorem eachL_any (gf : FuncId) (f : E → List E) (B : Nat) (l : List E) (A : Option Addr) (c : Nat) (w : World) (hBw : B ≤ w.heap.size) (hl : l.length ≤ 1000000) (hA : LOk w (Lo w.heap.size) A l)
    (heg : ∀ args W, (callFunc gf args).run Tryz.prog W = .ok (.enter gf args) W)
    (hcall : ∀ e ∈ l, ∀ (A' R' : Option Addr) (c' d' : Nat) (w1 : World), Below w.heap.size w w1 → LOk w1 (Lo w1.heap.size) A' e.args → Calls Tryz.prog gf #[e.val A' c' R' d'] w1 fun x w' => ∃ (Ax : Option Addr) (cx : Nat), x = .returned (.slice Ax (f e).length cx) ∧ LOk w' (In2 B w1.heap.size w'.heap.size) Ax (f e) ∧ Below w1.heap.size w1 w') :
    Calls Tryz.prog 64 #[.slice A l.length c, .func (.func gf) #[] #[]] w fun x w' => ∃ g, x = .returned (.slice (some ⟨g, 0, none⟩) l.length l.length) ∧ (w.heap.size ≤ g ∧ g < w'.heap.size ∧ ∀ (i : Nat) (e : E), l[i]? = some e → ∃ (Ax : Option Addr) (cx : Nat), w'.cell? ⟨g, i, none⟩ = some (.slice Ax (f e).length cx) ∧ LOk w' (In2 B w.heap.size w'.heap.size) Ax (f e)) ∧ Below w.heap.size w w' := by
  have HA := Lib.hid (And.intro hA hcall)
  have hmk := makeLs l.length hl w
  clear hA hcall
  go_enter Tryz.func64, Tryz.ntmps64
  go_wp2_with fail
  go_loopw [13] (fun iv wr => ∃ (j : Nat) (C : Array Value), j ≤ l.length ∧ iv = .int .i64 j ∧ Hid (Below w.heap.size w wr ∧ Blk wr w.heap.size 26 C) ∧ Hid (C.size = l.length ∧ ∀ (i : Nat) (e : E), i < j → l[i]? = some e → ∃ (Ax : Option Addr) (cx : Nat), C[i]? = some (.slice Ax (f e).length cx) ∧ LOk wr (In3 B w.heap.size wr.heap.size) Ax (f e))) (fun iv _ => l.length - (intOf iv).toNat)
  case atStart => exact ⟨0, _, Nat.zero_le _, rfl, ⟨al (Below.refl _ _) _, Blk.new _ _ _⟩, ⟨by simp [madeCells], fun i e h => absurd h (Nat.not_lt_zero _)⟩⟩
  case round =>
    obtain ⟨j, C, hj, rfl, HW, HC⟩ := hrel
    by_cases hlt : j < l.length
    · have hlti : (j : Int) < (l.length : Int) := by omega
      obtain ⟨b, o, rfl, hb, he⟩ := (HA.out.1.below HW.out.1 HW.out.1.size).at_ hlt
      obtain ⟨z0, z1, z2, z3, z4, z5, z6, ⟨A1, c1, z7, z8⟩, R1, d1, z9, z10⟩ := EOk.mk_.1 he
      have x0 : wr.cell? ⟨b, o + j * 9, none⟩ = some (.int .i64 l[j].op) := z0
      have x1 : wr.cell? ⟨b, o + j * 9 + 1, none⟩ = some (.int .i64 l[j].n) := z1
      have x2 : wr.cell? ⟨b, o + j * 9 + 2, none⟩ = some (.int .i64 l[j].m) := z2
      have x3 : wr.cell? ⟨b, o + j * 9 + 3, none⟩ = some (.int .i64 l[j].kind) := z3
      have x4 : wr.cell? ⟨b, o + j * 9 + 4, none⟩ = some (.int .i64 l[j].lit.k) := z4
      have x5 : wr.cell? ⟨b, o + j * 9 + 5, none⟩ = some (.int .i64 l[j].lit.n) := z5
      have x6 : wr.cell? ⟨b, o + j * 9 + 6, none⟩ = some (.string l[j].lit.s) := z6
      have x7 : wr.cell? ⟨b, o + j * 9 + 7, none⟩ = some (.slice A1 l[j].args.length c1) := z7
      have x8 : wr.cell? ⟨b, o + j * 9 + 8, none⟩ = some (.slice R1 l[j].rels.length d1) := z9
      have HK : Hid (∀ ob, Calls Tryz.prog gf #[l[j].val A1 c1 R1 d1] (wr.alloc ob) fun x w' => ∃ (Ax : Option Addr) (cx : Nat), x = .returned (.slice Ax (f l[j]).length cx) ∧ LOk w' (In2 B (wr.alloc ob).heap.size w'.heap.size) Ax (f l[j]) ∧ Below (wr.alloc ob).heap.size (wr.alloc ob) w') := Lib.hid fun ob =>
        HA.out.2 _ (List.getElem_mem hlt) A1 R1 c1 d1 _ (al HW.out.1 _) (z8.below (al (Below.refl _ _) _) (by simp))
      have hge : l[j]? = some l[j] := List.getElem?_eq_getElem hlt
      have HG := Lib.hid hge
      clear z0 z1 z2 z3 z4 z5 z6 z7 z8 z9 z10 he hge
      generalize l[j] = ei at *
      unfold E.val at HK
      go_wp2_with fail
      refine (HK.out _).mono ?_
      rintro x w3 ⟨Ax, cx, rfl, hLx, hb3⟩
      have hB3 := (HW.out.2.alloc (.cells #[.int .i64 ei.op, .int .i64 ei.n, .int .i64 ei.m, .int .i64 ei.kind, .int .i64 ei.lit.k, .int .i64 ei.lit.n, .string ei.lit.s, .slice A1 ei.args.length c1, .slice R1 ei.rels.length d1] 29)).below hb3 (by have := HW.out.2.lt; simp; omega)
      have k0 := hB3.cell j
      have kf := hB3.frozen j
      have hCj : j < C.size := by rw [HC.out.1]; exact hlt
      rw [Array.getElem?_eq_getElem hCj] at k0
      have HN : Hid ((Below w.heap.size w (w3.setCell ⟨w.heap.size, j, none⟩ (.slice Ax (f ei).length cx)) ∧ Blk (w3.setCell ⟨w.heap.size, j, none⟩ (.slice Ax (f ei).length cx)) w.heap.size 26 (C.setIfInBounds j (.slice Ax (f ei).length cx))) ∧ (C.setIfInBounds j (.slice Ax (f ei).length cx)).size = l.length ∧ ∀ (i : Nat) (e : E), i < j + 1 → l[i]? = some e → ∃ (Ay : Option Addr) (cy : Nat), (C.setIfInBounds j (.slice Ax (f ei).length cx))[i]? = some (.slice Ay (f e).length cy) ∧ LOk (w3.setCell ⟨w.heap.size, j, none⟩ (.slice Ax (f ei).length cx)) (In3 B w.heap.size (w3.setCell ⟨w.heap.size, j, none⟩ (.slice Ax (f ei).length cx)).heap.size) Ay (f e)) := Lib.hid (by
        have hs3 : (w3.setCell ⟨w.heap.size, j, none⟩ (.slice Ax (f ei).length cx)).heap.size = w3.heap.size := by simp
        have hfar : ∀ b, b ≠ w.heap.size → (w3.setCell ⟨w.heap.size, j, none⟩ (.slice Ax (f ei).length cx)).heap[b]? = w3.heap[b]? := fun b hb => Below.heap_setCell w3 ⟨w.heap.size, j, none⟩ _ b hb
        have hsw := HW.out.1.size
        have hs1 := hb3.size
        have hs2 : (wr.alloc (.cells #[.int .i64 ei.op, .int .i64 ei.n, .int .i64 ei.m, .int .i64 ei.kind, .int .i64 ei.lit.k, .int .i64 ei.lit.n, .string ei.lit.s, .slice A1 ei.args.length c1, .slice R1 ei.rels.length d1] 29)).heap.size = wr.heap.size + 1 := by simp
        refine ⟨⟨(thn (al HW.out.1 _) hb3).setCell (p := ⟨w.heap.size, j, none⟩) (Nat.le_refl _) _, hB3.set_ j _⟩, by simpa using HC.out.1, fun i e hi hie => ?_⟩
        by_cases hij : i = j
        · subst hij
          rw [HG.out] at hie
          injection hie with hie
          subst hie
          exact ⟨Ax, cx, Array.getElem?_setIfInBounds_self_of_lt hCj, hLx.kept (fun b hb => hfar b (by have := hb.1; rw [hs2] at this; omega)) fun b hb => ⟨by have := hb.1; rw [hs2] at this; omega, by rw [hs3]; exact hb.2⟩⟩
        · obtain ⟨Ay, cy, hy, hL⟩ := HC.out.2 i e (by omega) hie
          refine ⟨Ay, cy, by rw [Array.getElem?_setIfInBounds_ne (fun e1 => hij e1.symm)]; exact hy, hL.kept (fun b hb => ?_) fun b hb => ⟨hb.1, by rw [hs3]; have := hb.2; omega⟩⟩
          rw [hfar b (by have := hb.1; omega)]
          exact (hb3.block b (by rw [hs2]; have := hb.2; omega)).trans (Below.heap_alloc wr _ b hb.2))
      clear hb3 hB3 hLx
      go_wp2_with fail
      exact ⟨⟨j + 1, _, by omega, by go_num, HN.out.1, HN.out.2⟩, by simp [intOf]; omega⟩
    · have hlf : decide ((j : Int) < (l.length : Int)) = false := decide_eq_false (by omega)
      have hje : j = l.length := by omega
      have HV : Hid (∀ (i : Nat) (e : E), l[i]? = some e → ∃ (Ax : Option Addr) (cx : Nat), wr.cell? ⟨w.heap.size, i, none⟩ = some (.slice Ax (f e).length cx) ∧ LOk wr (In2 B w.heap.size wr.heap.size) Ax (f e)) := Lib.hid (fun i e hi => by
        obtain ⟨Ax, cx, h1, h2⟩ := HC.out.2 i e (by have := (List.getElem?_eq_some_iff.1 hi).1; omega) hi
        exact ⟨Ax, cx, (HW.out.2.cell i).trans h1, h2.kept (fun _ _ => rfl) fun b hb => ⟨hb.1.imp id Nat.le_of_lt, hb.2⟩⟩)
      clear hje
      go_wp2_with fail
      go_ret
      exact ⟨w.heap.size, rfl, ⟨Nat.le_refl _, HW.out.2.lt, HV.out⟩, HW.out.1⟩
end Go.Proofs.YtcbcncaoabablaaGreatDoor
