/-
  THE WALK of ScalarMoves.
-/
import Derived.Test.YtdiehgfldndgbaaGreatDoorGA28
import Derived.Test.YtdiehgfldndgbaaGreatDoorGA04
import Derived.Test.YtdiehgfldndgbaaGreatDoorGA01
import Derived.Test.YtdiehgfldndgbaaGreatDoorCuA
import Derived.Test.YtdiehgfldndgbaaGreatDoorGA19
import Derived.Test.YtdiehgfldndgbaaGreatDoorGA25
import Derived.Test.YtdiehgfldndgbaaGreatDoorGA07
import Derived.Test.YtdiehgfldndgbaaGreatDoorSam
namespace Go.Proofs.YtdiehgfldndgbaaGreatDoor
open Go.RowKit Go.Deep

section
variable {P : Program} {w : World}
theorem wpList_append_freshN {ops : Array Oper} {rest : List Oper} {o : Oper} {a : Act} {Q : Exit → Act → World → Prop} (hgd : o.guard = none) (s x : Operand) (t : TypeId)
    (ho : o.op = .call { callee := .builtin .append, args := #[s, x], argTypes := #[t, t] })
    (base : Nat) (e : TypeId) (i : TypeInfo) (z : Value) (size bytes : Nat) (ht : P.underlying t = some (.slice e)) (hi : P.info? e = some i) (hz : i.zero = some z)
    (hsize : i.size = size) (hby : i.bytes = bytes) (hzs : z.cells.size = size)
    (g : Nat) (hs : a.eval s = .slice (some ⟨g, 0, none⟩) 0 0) (hown : w.ownsRow base e size (.slice (some ⟨g, 0, none⟩) 0 0) 0 [])
    (B : Nat) (A : Option Addr) (m c : Nat) (news : List Value) (hx : a.eval x = .slice A m c) (hr : Reads w B size A m news)
    (h63 : m ≤ maxLen) (hbytes : m * bytes ≤ 140737488355328) (hbase : base ≤ w.heap.size)
    (h : ∀ v' w', ((m = 0 ∧ v' = .slice (some ⟨g, 0, none⟩) 0 0 ∧ w' = w) ∨ (0 < m ∧ w'.ownsRow w.heap.size e size v' m news)) → Below w.heap.size w w' → wpList P ops Q rest (a.put o.dst v') w') : wpList P ops Q (o :: rest) a w := by
  refine wpList_plain hgd fun K hK => ?_
  obtain ⟨v', w', hrun, h2, h3⟩ := run_append_freshN (P := P) base t o.type e i z size bytes ht hi hz hsize hby hzs g hown B A m c news hr h63 hbytes hbase
  unfold Oper.wp execOp
  simp only [ho, resolve, invoke, builtin, Sem.run_bind, Sem.run_pure, Result.andThen_ok, List.map_toArray, List.map_cons, List.map_nil, hs, hx, hrun]
  exact hK _ _ (h v' w' h2 h3)
end
set_option maxHeartbeats 16000000 in
set_option maxRecDepth 100000 in
theorem ScalarMoves_any (e : E) (A R : Option Addr) (c d : Nat) (mv : List Int) (Am : Option Addr) (cm : Nat) (w : World) (hG : GE w) (hS : GS w) (hI : EIn e) (hA : LOk w (Lo w.heap.size) A e.args) (hR : ROk w (Lo w.heap.size) R e.rels) (hM : IRd w (Lo w.heap.size) Am mv) (_hml : mv.length ≤ maxLen) (hmc : mv.length ≤ cm) :
    Calls Tryz.prog 4 #[e.val A c R d, .slice Am mv.length cm] w fun x w' => x = .returned (.bool true) ∧ Below w.heap.size w w' := by
  have hb0 : Below w.heap.size w (w.alloc (.cells #[.int .i64 e.op, .int .i64 e.n, .int .i64 e.m, .int .i64 e.kind, .int .i64 e.lit.k, .int .i64 e.lit.n, .string e.lit.s, .slice A e.args.length c, .slice R e.rels.length d] 30)) := al (Below.refl _ _) _
  obtain ⟨m, hm⟩ : ∃ m, m = min mv.length 40 := ⟨_, rfl⟩
  have hmin : min (mv.length : Int) 40 = ((m : Nat) : Int) := by omega
  have hmc2 : (m : Int) ≤ (cm : Int) := by omega
  have hm40 : m ≤ 40 := by omega
  have hmin2 : min mv.length 40 = m := hm.symm
  obtain ⟨ps, hps⟩ : ∃ ps, ps = mv.take 40 := ⟨_, rfl⟩
  have hpl : ps.length = m := by rw [hps, List.length_take, hm]; omega
  have H0 : Hid ((GE w ∧ GS w ∧ EIn e ∧ Below w.heap.size w (w.alloc (.cells #[.int .i64 e.op, .int .i64 e.n, .int .i64 e.m, .int .i64 e.kind, .int .i64 e.lit.k, .int .i64 e.lit.n, .string e.lit.s, .slice A e.args.length c, .slice R e.rels.length d] 30))) ∧ Blk (w.alloc (.cells #[.int .i64 e.op, .int .i64 e.n, .int .i64 e.m, .int .i64 e.kind, .int .i64 e.lit.k, .int .i64 e.lit.n, .string e.lit.s, .slice A e.args.length c, .slice R e.rels.length d] 30)) w.heap.size 30 #[.int .i64 e.op, .int .i64 e.n, .int .i64 e.m, .int .i64 e.kind, .int .i64 e.lit.k, .int .i64 e.lit.n, .string e.lit.s, .slice A e.args.length c, .slice R e.rels.length d]) := Lib.hid ⟨⟨hG, hS, hI, hb0⟩, Blk.new _ _ _⟩
  have HCe : Hid (∀ W, Below (w.alloc (.cells #[.int .i64 e.op, .int .i64 e.n, .int .i64 e.m, .int .i64 e.kind, .int .i64 e.lit.k, .int .i64 e.lit.n, .string e.lit.s, .slice A e.args.length c, .slice R e.rels.length d] 30)).heap.size (w.alloc (.cells #[.int .i64 e.op, .int .i64 e.n, .int .i64 e.m, .int .i64 e.kind, .int .i64 e.lit.k, .int .i64 e.lit.n, .string e.lit.s, .slice A e.args.length c, .slice R e.rels.length d] 30)) W → Calls Tryz.prog 20 #[.agg #[.int .i64 e.op, .int .i64 e.n, .int .i64 e.m, .int .i64 e.kind, .int .i64 e.lit.k, .int .i64 e.lit.n, .string e.lit.s, .slice A e.args.length c, .slice R e.rels.length d]] W fun x w' => ∃ h : HE, h.e = (cutE 420 e).1 ∧ x = .returned h.val ∧ Below W.heap.size W w' ∧ h.ok w' (fun b => W.heap.size ≤ b ∧ b < w'.heap.size)) := Lib.hid fun W hb => by
    have k := CutW_any e A R c d W hI (hA.below (thn hb0 hb) (thn hb0 hb).size) (hR.below (thn hb0 hb) (thn hb0 hb).size)
    unfold E.val at k
    exact k
  have HPs : Hid (∀ W, Below (w.alloc (.cells #[.int .i64 e.op, .int .i64 e.n, .int .i64 e.m, .int .i64 e.kind, .int .i64 e.lit.k, .int .i64 e.lit.n, .string e.lit.s, .slice A e.args.length c, .slice R e.rels.length d] 30)).heap.size (w.alloc (.cells #[.int .i64 e.op, .int .i64 e.n, .int .i64 e.m, .int .i64 e.kind, .int .i64 e.lit.k, .int .i64 e.lit.n, .string e.lit.s, .slice A e.args.length c, .slice R e.rels.length d] 30)) W → Reads W W.heap.size 1 Am m (icells ps)) := Lib.hid fun W hb => by
    refine ⟨by rw [icells_len, hpl, Nat.mul_one], fun h0 => ?_⟩
    obtain ⟨b, o, e1, hb1, hc⟩ := hM (by omega)
    refine ⟨_, e1, Nat.lt_of_lt_of_le hb1 (thn hb0 hb).size, fun j u hj => ?_⟩
    rw [addN]
    obtain ⟨z, hz, rfl⟩ : ∃ z, ps[j]? = some z ∧ .int .i64 z = u := by
      unfold icells at hj
      rw [List.getElem?_map] at hj
      obtain ⟨z, hz, rfl⟩ := Option.map_eq_some_iff.1 hj
      exact ⟨z, hz, rfl⟩
    rw [hps, List.getElem?_take] at hz
    split at hz
    · exact ((thn hb0 hb).cell (p := ⟨b, o + j, none⟩) hb1).trans (hc j z hz)
    · cases hz
  have HPl := Lib.hid (And.intro hps hpl)
  clear hG hS hI hA hR hM hb0 hm hps hpl hmin2
  unfold E.val
  go_enter Tryz.func4, Tryz.ntmps4
  go_upto_region 1 with fail
  generalize (w.alloc (.cells #[.int .i64 e.op, .int .i64 e.n, .int .i64 e.m, .int .i64 e.kind, .int .i64 e.lit.k, .int .i64 e.lit.n, .string e.lit.s, .slice A e.args.length c, .slice R e.rels.length d] 30)) = W0 at *
  refine wp_region_growI (W := W0) 10 [[], [0], [], [], [], [4], [5], [3, 6], [2, 7], []]  (fun i lo hi u w => match i with | 0 => u = .agg #[.int .i64 e.op, .int .i64 e.n, .int .i64 e.m, .int .i64 e.kind, .int .i64 e.lit.k, .int .i64 e.lit.n, .string e.lit.s, .slice A e.args.length c, .slice R e.rels.length d] | 1 => ∃ h : HE, (h.e = (cutE 420 e).1 ∧ u = h.val) ∧ (hi ≤ w.heap.size ∧ h.ok w (fun b => lo ≤ b ∧ b < hi)) | 2 => (u = .slice (some ⟨lo, 0, none⟩) 0 0 ∧ hi = lo + 1) ∧ Blk w lo 3 #[] | 3 => u = .slice Am mv.length cm | 4 => u = .slice Am mv.length cm | 5 => u = .int .i64 (mv.length : Nat) | 6 => u = .int .i64 (m : Nat) | 7 => u = .slice Am m cm | 8 => ∃ (A : Option Addr) (c : Nat), u = .slice A ps.length c ∧ (hi ≤ w.heap.size ∧ IRd w (fun b => lo ≤ b ∧ b < hi) A ps) | _ => (u = .pointer (some ⟨lo, 0, none⟩) ∧ hi = lo + 1) ∧ Blk w lo 30 #[.int .i64 0, .int .i64 0, .int .i64 0, .int .i64 0, .int .i64 0, .int .i64 0, .string ⟨#[]⟩, .slice none 0 0, .slice none 0 0]) (by kernel_rfl) (by kernel_rfl) ?hD ⟨?o0, ?o1, ?o2, ?o3, ?o4, ?o5, ?o6, ?o7, ?o8, ?o9, trivial⟩ ?fin
  case hD =>
    intro i lo hi u w1 w2 hb hd
    split at hd <;> first | exact hd | (obtain ⟨h, h1, h2⟩ := hd; exact ⟨h, h1, Nat.le_trans h2.1 hb.size, h2.2.kept (fun b h => hb.block b (Nat.lt_of_lt_of_le h.2 h2.1)) fun _ h => h⟩) | (obtain ⟨A, c, h1, h2⟩ := hd; exact ⟨A, c, h1, Nat.le_trans h2.1 hb.size, h2.2.kept (fun b h => hb.block b (Nat.lt_of_lt_of_le h.2 h2.1)) fun _ h => h⟩) | (exact ⟨hd.1, hd.2.below hb hd.2.lt⟩)
  case o0 =>
    refine growOneI_of (pre := []) rfl ?_
    simp only [fillL, Act.put]
    intro f lo hi w' hb hp
    have hq := H0.out.2.below hb H0.out.2.lt
    have x0 := hq.cell 0
    have x1 := hq.cell 1
    have x2 := hq.cell 2
    have x3 := hq.cell 3
    have x4 := hq.cell 4
    have x5 := hq.cell 5
    have x6 := hq.cell 6
    have x7 := hq.cell 7
    have x8 := hq.cell 8
    simp only [List.getElem?_toArray, List.getElem?_cons_succ, List.getElem?_cons_zero] at x0 x1 x2 x3 x4 x5 x6 x7 x8
    clear hq
    clear hp
    clear hb
    go_wp2_with fail
    exact ⟨Below.refl _ _, rfl⟩
  case o1 =>
    refine growOneI_of (pre := [0]) rfl ?_
    simp only [fillL, Region.dstOf, List.getElem?_toArray, List.getElem?_cons_zero, Option.bind_some, Act.put]
    intro f lo hi w' hb hp
    have h0 : f 0 = .agg #[.int .i64 e.op, .int .i64 e.n, .int .i64 e.m, .int .i64 e.kind, .int .i64 e.lit.k, .int .i64 e.lit.n, .string e.lit.s, .slice A e.args.length c, .slice R e.rels.length d] := hp 0 (by decide)
    have HK := Lib.hid (HCe.out w' hb)
    clear hp
    rw [h0]
    clear h0
    clear hb
    go_wp2_with fail
    refine HK.out.mono ?_
    rintro x w9 ⟨h, hh, rfl, hb9, hok⟩
    have HO : Hid (∃ h' : HE, (h'.e = (cutE 420 e).1 ∧ h.val = h'.val) ∧ (w9.heap.size ≤ w9.heap.size ∧ h'.ok w9 (fun b => w'.heap.size ≤ b ∧ b < w9.heap.size))) := Lib.hid ⟨h, ⟨hh, rfl⟩, Nat.le_refl _, hok⟩
    clear hok hh HK
    go_wp2_with fail
    exact ⟨hb9, HO.out⟩
  case o2 =>
    refine growOneI_of (pre := []) rfl ?_
    simp only [fillL, Act.put]
    intro f lo hi w' hb hp
    clear hp
    clear hb
    go_wp2_with fail
    exact ⟨al (Below.refl _ _) _, ⟨rfl, by simp⟩, Blk.new w' _ _⟩
  case o3 =>
    refine growOneI_of (pre := []) rfl ?_
    simp only [fillL, Act.put]
    intro f lo hi w' hb hp
    clear hp
    clear hb
    go_wp2_with fail
    exact ⟨Below.refl _ _, rfl⟩
  case o4 =>
    refine growOneI_of (pre := []) rfl ?_
    simp only [fillL, Act.put]
    intro f lo hi w' hb hp
    clear hp
    clear hb
    go_wp2_with fail
    exact ⟨Below.refl _ _, rfl⟩
  case o5 =>
    refine growOneI_of (pre := [4]) rfl ?_
    simp only [fillL, Region.dstOf, List.getElem?_toArray, List.getElem?_cons_zero, List.getElem?_cons_succ, Option.bind_some, Act.put]
    intro f lo hi w' hb hp
    have h4 : f 4 = .slice Am mv.length cm := hp 4 (by decide)
    clear hp
    rw [h4]
    clear h4
    clear hb
    go_wp2_with fail
    exact ⟨Below.refl _ _, rfl⟩
  case o6 =>
    refine growOneI_of (pre := [5]) rfl ?_
    simp only [fillL, Region.dstOf, List.getElem?_toArray, List.getElem?_cons_zero, List.getElem?_cons_succ, Option.bind_some, Act.put]
    intro f lo hi w' hb hp
    have h5 : f 5 = .int .i64 (mv.length : Nat) := hp 5 (by decide)
    clear hp
    rw [h5]
    clear h5
    clear hb
    go_wp2_with fail
    exact ⟨Below.refl _ _, rfl⟩
  case o7 =>
    refine growOneI_of (pre := [3, 6]) rfl ?_
    simp only [fillL, Region.dstOf, List.getElem?_toArray, List.getElem?_cons_zero, List.getElem?_cons_succ, Option.bind_some, Act.put]
    intro f lo hi w' hb hp
    have h3 : f 3 = .slice Am mv.length cm := hp 3 (by decide)
    have h6 : f 6 = .int .i64 (m : Nat) := hp 6 (by decide)
    clear hp
    rw [h3, h6]
    clear h3 h6
    clear hb
    go_wp2_with fail
    exact ⟨Below.refl _ _, rfl⟩
  case o8 =>
    refine growOneI_of (pre := [2, 7]) rfl ?_
    simp only [fillL, Region.dstOf, List.getElem?_toArray, List.getElem?_cons_zero, List.getElem?_cons_succ, Option.bind_some, Act.put]
    intro f lo hi w' hb hp
    obtain ⟨⟨h2, hz2⟩, hB2⟩ := hp 2 (by decide)
    have h7 : f 7 = .slice Am m cm := hp 7 (by decide)
    have HRd := Lib.hid (HPs.out w' hb)
    have hbs := hb.size
    clear hp
    rw [h2, h7]
    clear h2 h7
    clear hb
    obtain ⟨i0, hi, hz0, hz1, hz2b⟩ := info_parts infoInt
    have hown : w'.ownsRow 0 3 1 (.slice (some ⟨lo 2, 0, none⟩) 0 0) 0 [] := ⟨rfl, .inr ⟨_, 0, #[], rfl, Nat.zero_le _, hB2, Nat.le_refl _, Nat.zero_le _, rfl, rfl⟩⟩
    refine wpList_append_freshN rfl (.tmp 13) (.tmp 18) 39 rfl 0 3 i0 (.int .i64 0) 1 8 Tryz.underlying39 hi hz0 hz1 hz2b rfl _ rfl hown w'.heap.size Am m cm (icells ps) rfl HRd.out (by unfold maxLen; omega) (by omega) (Nat.zero_le _) ?_
    intro v' w4 hv hb4
    have HO : Hid (∃ (A : Option Addr) (c : Nat), v' = .slice A ps.length c ∧ (w4.heap.size ≤ w4.heap.size ∧ IRd w4 (fun b => w'.heap.size ≤ b ∧ b < w4.heap.size) A ps)) := Lib.hid (by
      rcases hv with ⟨h0, rfl, rfl⟩ | ⟨h0, hv⟩
      · exact ⟨_, 0, by rw [HPl.out.2, h0], Nat.le_refl _, fun h1 => absurd h1 (by rw [HPl.out.2]; omega)⟩
      · rw [← HPl.out.2] at hv
        obtain ⟨A8, c8, e8, h8⟩ := IRd.own hv
        exact ⟨A8, c8, e8, Nat.le_refl _, h8⟩)
    exact ⟨rfl, v', rfl, hb4, HO.out⟩
  case o9 =>
    refine growOneI_of (pre := []) rfl ?_
    simp only [fillL, Act.put]
    intro f lo hi w' hb hp
    clear hp
    clear hb
    go_wp2_with fail
    exact ⟨al (Below.refl _ _) _, ⟨rfl, by simp⟩, Blk.new w' _ _⟩
  case fin =>
    intro f lo hi w' hb hd hv hx
    have e0 : f 0 = .agg #[.int .i64 e.op, .int .i64 e.n, .int .i64 e.m, .int .i64 e.kind, .int .i64 e.lit.k, .int .i64 e.lit.n, .string e.lit.s, .slice A e.args.length c, .slice R e.rels.length d] := hd 0 (by decide)
    obtain ⟨h, ⟨hh, e1⟩, hl, ho⟩ := hd 1 (by decide)
    obtain ⟨⟨e2, hz2⟩, hB2⟩ := hd 2 (by decide)
    have e3 : f 3 = .slice Am mv.length cm := hd 3 (by decide)
    have e4 : f 4 = .slice Am mv.length cm := hd 4 (by decide)
    have e5 : f 5 = .int .i64 (mv.length : Nat) := hd 5 (by decide)
    have e6 : f 6 = .int .i64 (m : Nat) := hd 6 (by decide)
    have e7 : f 7 = .slice Am m cm := hd 7 (by decide)
    obtain ⟨A8, c8, e8, hl8, hi8⟩ := hd 8 (by decide)
    obtain ⟨⟨e9, hz9⟩, hB9⟩ := hd 9 (by decide)
    clear hd
    rw [show List.range 10 = [0, 1, 2, 3, 4, 5, 6, 7, 8, 9] from rfl]
    simp only [fillL, Region.dstOf, List.getElem?_toArray, List.getElem?_cons_zero, List.getElem?_cons_succ, Option.bind_some, Act.put]
    rw [e0, e1, e2, e3, e4, e5, e6, e7, e8, e9]
    clear e0 e1 e2 e3 e4 e5 e6 e7 e8 e9
    unfold HE.val E.val
    obtain ⟨g5, hg5⟩ : ∃ g, g = lo 9 := ⟨_, rfl⟩
    have q9 := hv 9 (by decide)
    have q1 := hv 1 (by decide)
    have q8 := hv 8 (by decide)
    have r19 := hx 1 (by decide) 9 (by decide) (by decide)
    have r89 := hx 8 (by decide) 9 (by decide) (by decide)
    rw [← hg5] at hB9 hz9 q9 r19 r89 ⊢
    have hb9 := hB9.lt
    have hs0 := H0.out.1.2.2.2.size
    have hW9 : Below w.heap.size w (set9 w' g5 (.int .i64 h.e.op) (.int .i64 h.e.n) (.int .i64 h.e.m) (.int .i64 h.e.kind) (.int .i64 h.e.lit.k) (.int .i64 h.e.lit.n) (.string h.e.lit.s) (.slice h.A h.e.args.length h.c) (.slice h.R h.e.rels.length h.d)) := (H0.out.1.2.2.2.trans (hb.mono hs0)).trans (st9' (B := w.heap.size) (by omega) (.int .i64 h.e.op) (.int .i64 h.e.n) (.int .i64 h.e.m) (.int .i64 h.e.kind) (.int .i64 h.e.lit.k) (.int .i64 h.e.lit.n) (.string h.e.lit.s) (.slice h.A h.e.args.length h.c) (.slice h.R h.e.rels.length h.d))
    have hs9 : ((set9 w' g5 (.int .i64 h.e.op) (.int .i64 h.e.n) (.int .i64 h.e.m) (.int .i64 h.e.kind) (.int .i64 h.e.lit.k) (.int .i64 h.e.lit.n) (.string h.e.lit.s) (.slice h.A h.e.args.length h.c) (.slice h.R h.e.rels.length h.d))).heap.size = w'.heap.size := set9_size _ _ _ _ _ _ _ _ _ _ _
    have B5 := Lib.hid (hB9.set9_ (.int .i64 h.e.op) (.int .i64 h.e.n) (.int .i64 h.e.m) (.int .i64 h.e.kind) (.int .i64 h.e.lit.k) (.int .i64 h.e.lit.n) (.string h.e.lit.s) (.slice h.A h.e.args.length h.c) (.slice h.R h.e.rels.length h.d))
    have h9 : h.ok (set9 w' g5 (.int .i64 h.e.op) (.int .i64 h.e.n) (.int .i64 h.e.m) (.int .i64 h.e.kind) (.int .i64 h.e.lit.k) (.int .i64 h.e.lit.n) (.string h.e.lit.s) (.slice h.A h.e.args.length h.c) (.slice h.R h.e.rels.length h.d)) (Lo ((set9 w' g5 (.int .i64 h.e.op) (.int .i64 h.e.n) (.int .i64 h.e.m) (.int .i64 h.e.kind) (.int .i64 h.e.lit.k) (.int .i64 h.e.lit.n) (.string h.e.lit.s) (.slice h.A h.e.args.length h.c) (.slice h.R h.e.rels.length h.d))).heap.size) := ho.kept (fun b hb => set9_far _ _ _ _ _ _ _ _ _ _ _ b (by have := hb.1; have := hb.2; omega)) fun b hb => by show b < _; rw [hs9]; have := hb.2; omega
    have E1 := Lib.hid (cut_has H0.out.1.2.2.1 hh h9)
    have I8 : Hid (IRd (set9 w' g5 (.int .i64 h.e.op) (.int .i64 h.e.n) (.int .i64 h.e.m) (.int .i64 h.e.kind) (.int .i64 h.e.lit.k) (.int .i64 h.e.lit.n) (.string h.e.lit.s) (.slice h.A h.e.args.length h.c) (.slice h.R h.e.rels.length h.d)) (Lo ((set9 w' g5 (.int .i64 h.e.op) (.int .i64 h.e.n) (.int .i64 h.e.m) (.int .i64 h.e.kind) (.int .i64 h.e.lit.k) (.int .i64 h.e.lit.n) (.string h.e.lit.s) (.slice h.A h.e.args.length h.c) (.slice h.R h.e.rels.length h.d))).heap.size) A8 ps) := Lib.hid (hi8.kept (fun b hb => set9_far _ _ _ _ _ _ _ _ _ _ _ b (by have := hb.1; have := hb.2; omega)) fun b hb => by show b < _; rw [hs9]; have := hb.2; omega)
    have HGW := Lib.hid (And.intro (H0.out.1.1.thn hW9) (And.intro (H0.out.1.2.1.thn hW9) hW9))
    have f0 := hB9.frozen 0
    have f1 := hB9.frozen 1
    have f2 := hB9.frozen 2
    have f3 := hB9.frozen 3
    have f4 := hB9.frozen 4
    have f5 := hB9.frozen 5
    have f6 := hB9.frozen 6
    have f7 := hB9.frozen 7
    have f8 := hB9.frozen 8
    have d0 := hB9.cell 0
    have d1 := hB9.cell 1
    have d2 := hB9.cell 2
    have d3 := hB9.cell 3
    have d4 := hB9.cell 4
    have d5 := hB9.cell 5
    have d6 := hB9.cell 6
    have d7 := hB9.cell 7
    have d8 := hB9.cell 8
    simp only [List.getElem?_toArray, List.getElem?_cons_succ, List.getElem?_cons_zero] at d0 d1 d2 d3 d4 d5 d6 d7 d8
    clear hs9 hW9 h9 hh ho hl q9 q1 q8 r19 r89 hv hx hs0 hz9 hg5 hz2 hB2 hl8 hi8 HCe HPs H0
    go_upto_region 2 with fail
    clear f0 f1 f2 f3 f4 f5 f6 f7 f8 d0 d1 d2 d3 d4 d5 d6 d7 d8
    change Code.wp _ _ _ _ (set9 w' g5 (.int .i64 h.e.op) (.int .i64 h.e.n) (.int .i64 h.e.m) (.int .i64 h.e.kind) (.int .i64 h.e.lit.k) (.int .i64 h.e.lit.n) (.string h.e.lit.s) (.slice h.A h.e.args.length h.c) (.slice h.R h.e.rels.length h.d))
    generalize (set9 w' g5 (.int .i64 h.e.op) (.int .i64 h.e.n) (.int .i64 h.e.m) (.int .i64 h.e.kind) (.int .i64 h.e.lit.k) (.int .i64 h.e.lit.n) (.string h.e.lit.s) (.slice h.A h.e.args.length h.c) (.slice h.R h.e.rels.length h.d)) = ww at *
    have hp40 : ps.length ≤ maxLen := by have := HPl.out.2; unfold maxLen; omega
    have HMv := Lib.hid (MoveP_any h.e h.A h.R h.c h.d ps A8 c8 ww HGW.out.2.1 E1.out.1 I8.out hp40)
    have HF := Lib.hid (fun W (hbW : Below ww.heap.size ww W) => Form_any h.e h.A h.R h.c h.d W E1.out.1.n E1.out.1.f (E1.out.1.below hbW).a)
    have HAw : Hid (∀ W, Below ww.heap.size ww W → Calls Tryz.prog 17 #[] W fun x w2 => x = .returned (.bool true) ∧ Below W.heap.size W w2) := Lib.hid fun W hbW => awakeE_any W (HGW.out.1.thn hbW) (HGW.out.2.1.thn hbW)
    cases hq : formE h.e with
    | false =>
      have hms : mvS ps h.e = (zE, 30) := by unfold mvS; rw [hq]; rfl
      rw [hms] at HMv
      clear hms
      unfold E.val at HMv
      have hq := B5.out
      have x0 := hq.cell 0
      have x1 := hq.cell 1
      have x2 := hq.cell 2
      have x3 := hq.cell 3
      have x4 := hq.cell 4
      have x5 := hq.cell 5
      have x6 := hq.cell 6
      have x7 := hq.cell 7
      have x8 := hq.cell 8
      simp only [List.getElem?_toArray, List.getElem?_cons_succ, List.getElem?_cons_zero] at x0 x1 x2 x3 x4 x5 x6 x7 x8
      clear hq
      go_wp2_with fail
      refine HMv.out.mono ?_
      rintro x w3 ⟨p, hpe, rfl, hb3, hpok⟩
      obtain ⟨g7, hg7⟩ : ∃ g, g = w3.heap.size := ⟨_, rfl⟩
      have hbp : Below ww.heap.size ww (w3.alloc (.cells #[.int .i64 p.e.op, .int .i64 p.e.n, .int .i64 p.e.m, .int .i64 p.e.kind, .int .i64 p.e.lit.k, .int .i64 p.e.lit.n, .string p.e.lit.s, .slice p.A p.e.args.length p.c, .slice p.R p.e.rels.length p.d] 30)) := al hb3 _
      have H6 : Hid (Below ww.heap.size ww (w3.alloc (.cells #[.int .i64 p.e.op, .int .i64 p.e.n, .int .i64 p.e.m, .int .i64 p.e.kind, .int .i64 p.e.lit.k, .int .i64 p.e.lit.n, .string p.e.lit.s, .slice p.A p.e.args.length p.c, .slice p.R p.e.rels.length p.d] 30)) ∧ Blk (w3.alloc (.cells #[.int .i64 p.e.op, .int .i64 p.e.n, .int .i64 p.e.m, .int .i64 p.e.kind, .int .i64 p.e.lit.k, .int .i64 p.e.lit.n, .string p.e.lit.s, .slice p.A p.e.args.length p.c, .slice p.R p.e.rels.length p.d] 30)) g5 30 #[.int .i64 h.e.op, .int .i64 h.e.n, .int .i64 h.e.m, .int .i64 h.e.kind, .int .i64 h.e.lit.k, .int .i64 h.e.lit.n, .string h.e.lit.s, .slice h.A h.e.args.length h.c, .slice h.R h.e.rels.length h.d] ∧ Blk (w3.alloc (.cells #[.int .i64 p.e.op, .int .i64 p.e.n, .int .i64 p.e.m, .int .i64 p.e.kind, .int .i64 p.e.lit.k, .int .i64 p.e.lit.n, .string p.e.lit.s, .slice p.A p.e.args.length p.c, .slice p.R p.e.rels.length p.d] 30)) g7 30 #[.int .i64 p.e.op, .int .i64 p.e.n, .int .i64 p.e.m, .int .i64 p.e.kind, .int .i64 p.e.lit.k, .int .i64 p.e.lit.n, .string p.e.lit.s, .slice p.A p.e.args.length p.c, .slice p.R p.e.rels.length p.d] ∧ p.ok (w3.alloc (.cells #[.int .i64 p.e.op, .int .i64 p.e.n, .int .i64 p.e.m, .int .i64 p.e.kind, .int .i64 p.e.lit.k, .int .i64 p.e.lit.n, .string p.e.lit.s, .slice p.A p.e.args.length p.c, .slice p.R p.e.rels.length p.d] 30)) (Lo ((w3.alloc (.cells #[.int .i64 p.e.op, .int .i64 p.e.n, .int .i64 p.e.m, .int .i64 p.e.kind, .int .i64 p.e.lit.k, .int .i64 p.e.lit.n, .string p.e.lit.s, .slice p.A p.e.args.length p.c, .slice p.R p.e.rels.length p.d] 30))).heap.size)) := Lib.hid ⟨hbp, B5.out.below hbp B5.out.lt, by rw [hg7]; exact Blk.new _ _ _, hpok.kept (fun b hb => Below.heap_alloc w3 _ b hb.2) fun b hb => by have := hb.2; simp; omega⟩
      have HPe := Lib.hid hpe
      clear hb3 hpok hpe hbp HMv x0 x1 x2 x3 x4 x5 x6 x7 x8
      unfold HE.val E.val
      go_upto_region 3 with fail
      change Code.wp _ _ _ _ (w3.alloc (.cells #[.int .i64 p.e.op, .int .i64 p.e.n, .int .i64 p.e.m, .int .i64 p.e.kind, .int .i64 p.e.lit.k, .int .i64 p.e.lit.n, .string p.e.lit.s, .slice p.A p.e.args.length p.c, .slice p.R p.e.rels.length p.d] 30))
      rw [← hg7]
      clear hg7
      generalize (w3.alloc (.cells #[.int .i64 p.e.op, .int .i64 p.e.n, .int .i64 p.e.m, .int .i64 p.e.kind, .int .i64 p.e.lit.k, .int .i64 p.e.lit.n, .string p.e.lit.s, .slice p.A p.e.args.length p.c, .slice p.R p.e.rels.length p.d] 30)) = w6 at *
      have HFc := Lib.hid (HF.out w6 H6.out.1)
      rw [hq] at HFc
      unfold E.val at HFc
      clear hq HF
      have hq := H6.out.2.1
      have x0 := hq.cell 0
      have x1 := hq.cell 1
      have x2 := hq.cell 2
      have x3 := hq.cell 3
      have x4 := hq.cell 4
      have x5 := hq.cell 5
      have x6 := hq.cell 6
      have x7 := hq.cell 7
      have x8 := hq.cell 8
      simp only [List.getElem?_toArray, List.getElem?_cons_succ, List.getElem?_cons_zero] at x0 x1 x2 x3 x4 x5 x6 x7 x8
      clear hq
      go_wp2_with fail
      refine HFc.out.mono ?_
      rintro x w7 ⟨rfl, hb7⟩
      have H7 : Hid (Below ww.heap.size ww w7 ∧ Blk w7 g5 30 #[.int .i64 h.e.op, .int .i64 h.e.n, .int .i64 h.e.m, .int .i64 h.e.kind, .int .i64 h.e.lit.k, .int .i64 h.e.lit.n, .string h.e.lit.s, .slice h.A h.e.args.length h.c, .slice h.R h.e.rels.length h.d] ∧ Blk w7 g7 30 #[.int .i64 p.e.op, .int .i64 p.e.n, .int .i64 p.e.m, .int .i64 p.e.kind, .int .i64 p.e.lit.k, .int .i64 p.e.lit.n, .string p.e.lit.s, .slice p.A p.e.args.length p.c, .slice p.R p.e.rels.length p.d] ∧ p.ok w7 (Lo w7.heap.size)) := Lib.hid ⟨thn H6.out.1 hb7, H6.out.2.1.below hb7 H6.out.2.1.lt, H6.out.2.2.1.below hb7 H6.out.2.2.1.lt, H6.out.2.2.2.kept (fun b h => hb7.block b h) fun b h => Nat.lt_of_lt_of_le h hb7.size⟩
      clear hb7 HFc x0 x1 x2 x3 x4 x5 x6 x7 x8
      have HBr : Hid (∀ W, Calls Tryz.prog 16 #[.agg #[.int .i64 p.e.op, .int .i64 p.e.n, .int .i64 p.e.m, .int .i64 p.e.kind, .int .i64 p.e.lit.k, .int .i64 p.e.lit.n, .string p.e.lit.s, .slice p.A p.e.args.length p.c, .slice p.R p.e.rels.length p.d]] W fun x w2 => x = .returned (.bool true) ∧ Below W.heap.size W w2) := Lib.hid fun W => by rw [HPe.out]; exact bare0_any p.A p.R p.c p.d W
      have hq := H7.out.2.2.1
      have x0 := hq.cell 0
      have x1 := hq.cell 1
      have x2 := hq.cell 2
      have x3 := hq.cell 3
      have x4 := hq.cell 4
      have x5 := hq.cell 5
      have x6 := hq.cell 6
      have x7 := hq.cell 7
      have x8 := hq.cell 8
      simp only [List.getElem?_toArray, List.getElem?_cons_succ, List.getElem?_cons_zero] at x0 x1 x2 x3 x4 x5 x6 x7 x8
      clear hq
      go_wp2_with fail
      refine (HBr.out w7).mono ?_
      rintro x w11 ⟨rfl, hb11⟩
      have H11 := Lib.hid (thn H7.out.1 hb11)
      clear hb11 HBr x0 x1 x2 x3 x4 x5 x6 x7 x8
      go_wp2_with fail
      refine (HAw.out w11 H11.out).mono ?_
      rintro x w12 ⟨rfl, hb12⟩
      have H12 := Lib.hid (thn HGW.out.2.2 (thn H11.out hb12))
      clear hb12
      go_wp2_with fail
      go_ret
      exact ⟨rfl, H12.out⟩
    | true =>
      have HFt := Lib.hid hq
      cases hbad : (clmE h.e).any (badMv ps) with
      | true =>
        have hms : mvS ps h.e = (zE, 1) := by unfold mvS; rw [if_pos hq, hbad]; rfl
        have hmr : mvR ps h.e = (zE, false) := by unfold mvR; rw [hbad]; rfl
        rw [hms] at HMv
        clear hms hbad
        unfold E.val at HMv
        have hq := B5.out
        have x0 := hq.cell 0
        have x1 := hq.cell 1
        have x2 := hq.cell 2
        have x3 := hq.cell 3
        have x4 := hq.cell 4
        have x5 := hq.cell 5
        have x6 := hq.cell 6
        have x7 := hq.cell 7
        have x8 := hq.cell 8
        simp only [List.getElem?_toArray, List.getElem?_cons_succ, List.getElem?_cons_zero] at x0 x1 x2 x3 x4 x5 x6 x7 x8
        clear hq
        go_wp2_with fail
        refine HMv.out.mono ?_
        rintro x w3 ⟨p, hpe, rfl, hb3, hpok⟩
        obtain ⟨g7, hg7⟩ : ∃ g, g = w3.heap.size := ⟨_, rfl⟩
        have hbp : Below ww.heap.size ww (w3.alloc (.cells #[.int .i64 p.e.op, .int .i64 p.e.n, .int .i64 p.e.m, .int .i64 p.e.kind, .int .i64 p.e.lit.k, .int .i64 p.e.lit.n, .string p.e.lit.s, .slice p.A p.e.args.length p.c, .slice p.R p.e.rels.length p.d] 30)) := al hb3 _
        have H6 : Hid (Below ww.heap.size ww (w3.alloc (.cells #[.int .i64 p.e.op, .int .i64 p.e.n, .int .i64 p.e.m, .int .i64 p.e.kind, .int .i64 p.e.lit.k, .int .i64 p.e.lit.n, .string p.e.lit.s, .slice p.A p.e.args.length p.c, .slice p.R p.e.rels.length p.d] 30)) ∧ Blk (w3.alloc (.cells #[.int .i64 p.e.op, .int .i64 p.e.n, .int .i64 p.e.m, .int .i64 p.e.kind, .int .i64 p.e.lit.k, .int .i64 p.e.lit.n, .string p.e.lit.s, .slice p.A p.e.args.length p.c, .slice p.R p.e.rels.length p.d] 30)) g5 30 #[.int .i64 h.e.op, .int .i64 h.e.n, .int .i64 h.e.m, .int .i64 h.e.kind, .int .i64 h.e.lit.k, .int .i64 h.e.lit.n, .string h.e.lit.s, .slice h.A h.e.args.length h.c, .slice h.R h.e.rels.length h.d] ∧ Blk (w3.alloc (.cells #[.int .i64 p.e.op, .int .i64 p.e.n, .int .i64 p.e.m, .int .i64 p.e.kind, .int .i64 p.e.lit.k, .int .i64 p.e.lit.n, .string p.e.lit.s, .slice p.A p.e.args.length p.c, .slice p.R p.e.rels.length p.d] 30)) g7 30 #[.int .i64 p.e.op, .int .i64 p.e.n, .int .i64 p.e.m, .int .i64 p.e.kind, .int .i64 p.e.lit.k, .int .i64 p.e.lit.n, .string p.e.lit.s, .slice p.A p.e.args.length p.c, .slice p.R p.e.rels.length p.d] ∧ p.ok (w3.alloc (.cells #[.int .i64 p.e.op, .int .i64 p.e.n, .int .i64 p.e.m, .int .i64 p.e.kind, .int .i64 p.e.lit.k, .int .i64 p.e.lit.n, .string p.e.lit.s, .slice p.A p.e.args.length p.c, .slice p.R p.e.rels.length p.d] 30)) (Lo ((w3.alloc (.cells #[.int .i64 p.e.op, .int .i64 p.e.n, .int .i64 p.e.m, .int .i64 p.e.kind, .int .i64 p.e.lit.k, .int .i64 p.e.lit.n, .string p.e.lit.s, .slice p.A p.e.args.length p.c, .slice p.R p.e.rels.length p.d] 30))).heap.size)) := Lib.hid ⟨hbp, B5.out.below hbp B5.out.lt, by rw [hg7]; exact Blk.new _ _ _, hpok.kept (fun b hb => Below.heap_alloc w3 _ b hb.2) fun b hb => by have := hb.2; simp; omega⟩
        have HPe := Lib.hid hpe
        clear hb3 hpok hpe hbp HMv x0 x1 x2 x3 x4 x5 x6 x7 x8
        unfold HE.val E.val
        go_upto_region 3 with fail
        change Code.wp _ _ _ _ (w3.alloc (.cells #[.int .i64 p.e.op, .int .i64 p.e.n, .int .i64 p.e.m, .int .i64 p.e.kind, .int .i64 p.e.lit.k, .int .i64 p.e.lit.n, .string p.e.lit.s, .slice p.A p.e.args.length p.c, .slice p.R p.e.rels.length p.d] 30))
        rw [← hg7]
        clear hg7
        generalize (w3.alloc (.cells #[.int .i64 p.e.op, .int .i64 p.e.n, .int .i64 p.e.m, .int .i64 p.e.kind, .int .i64 p.e.lit.k, .int .i64 p.e.lit.n, .string p.e.lit.s, .slice p.A p.e.args.length p.c, .slice p.R p.e.rels.length p.d] 30)) = w6 at *
        have HFc := Lib.hid (HF.out w6 H6.out.1)
        rw [hq] at HFc
        unfold E.val at HFc
        clear hq HF
        have hq := H6.out.2.1
        have x0 := hq.cell 0
        have x1 := hq.cell 1
        have x2 := hq.cell 2
        have x3 := hq.cell 3
        have x4 := hq.cell 4
        have x5 := hq.cell 5
        have x6 := hq.cell 6
        have x7 := hq.cell 7
        have x8 := hq.cell 8
        simp only [List.getElem?_toArray, List.getElem?_cons_succ, List.getElem?_cons_zero] at x0 x1 x2 x3 x4 x5 x6 x7 x8
        clear hq
        go_wp2_with fail
        refine HFc.out.mono ?_
        rintro x w7 ⟨rfl, hb7⟩
        have H7 : Hid (Below ww.heap.size ww w7 ∧ Blk w7 g5 30 #[.int .i64 h.e.op, .int .i64 h.e.n, .int .i64 h.e.m, .int .i64 h.e.kind, .int .i64 h.e.lit.k, .int .i64 h.e.lit.n, .string h.e.lit.s, .slice h.A h.e.args.length h.c, .slice h.R h.e.rels.length h.d] ∧ Blk w7 g7 30 #[.int .i64 p.e.op, .int .i64 p.e.n, .int .i64 p.e.m, .int .i64 p.e.kind, .int .i64 p.e.lit.k, .int .i64 p.e.lit.n, .string p.e.lit.s, .slice p.A p.e.args.length p.c, .slice p.R p.e.rels.length p.d] ∧ p.ok w7 (Lo w7.heap.size)) := Lib.hid ⟨thn H6.out.1 hb7, H6.out.2.1.below hb7 H6.out.2.1.lt, H6.out.2.2.1.below hb7 H6.out.2.2.1.lt, H6.out.2.2.2.kept (fun b h => hb7.block b h) fun b h => Nat.lt_of_lt_of_le h hb7.size⟩
        clear hb7 HFc x0 x1 x2 x3 x4 x5 x6 x7 x8
        have HRm := Lib.hid (RMoved_any h.e h.A h.R h.c h.d ps A8 c8 w7 HFt.out (E1.out.1.below H7.out.1) (I8.out.kept (fun b h => H7.out.1.block b h) fun b h => Nat.lt_of_lt_of_le h H7.out.1.size) hp40)
        rw [hmr] at HRm
        unfold E.val at HRm
        have hq := H7.out.2.1
        have x0 := hq.cell 0
        have x1 := hq.cell 1
        have x2 := hq.cell 2
        have x3 := hq.cell 3
        have x4 := hq.cell 4
        have x5 := hq.cell 5
        have x6 := hq.cell 6
        have x7 := hq.cell 7
        have x8 := hq.cell 8
        simp only [List.getElem?_toArray, List.getElem?_cons_succ, List.getElem?_cons_zero] at x0 x1 x2 x3 x4 x5 x6 x7 x8
        clear hq
        go_wp2_with fail
        refine HRm.out.mono ?_
        rintro x w8 ⟨q, hqe, rfl, hb8, hqok⟩
        obtain ⟨g9, hg9⟩ : ∃ g, g = w8.heap.size := ⟨_, rfl⟩
        have hbq : Below w7.heap.size w7 (w8.alloc (.cells #[.int .i64 q.e.op, .int .i64 q.e.n, .int .i64 q.e.m, .int .i64 q.e.kind, .int .i64 q.e.lit.k, .int .i64 q.e.lit.n, .string q.e.lit.s, .slice q.A q.e.args.length q.c, .slice q.R q.e.rels.length q.d] 30)) := al hb8 _
        have H9 : Hid (Below ww.heap.size ww (w8.alloc (.cells #[.int .i64 q.e.op, .int .i64 q.e.n, .int .i64 q.e.m, .int .i64 q.e.kind, .int .i64 q.e.lit.k, .int .i64 q.e.lit.n, .string q.e.lit.s, .slice q.A q.e.args.length q.c, .slice q.R q.e.rels.length q.d] 30)) ∧ Blk (w8.alloc (.cells #[.int .i64 q.e.op, .int .i64 q.e.n, .int .i64 q.e.m, .int .i64 q.e.kind, .int .i64 q.e.lit.k, .int .i64 q.e.lit.n, .string q.e.lit.s, .slice q.A q.e.args.length q.c, .slice q.R q.e.rels.length q.d] 30)) g9 30 #[.int .i64 q.e.op, .int .i64 q.e.n, .int .i64 q.e.m, .int .i64 q.e.kind, .int .i64 q.e.lit.k, .int .i64 q.e.lit.n, .string q.e.lit.s, .slice q.A q.e.args.length q.c, .slice q.R q.e.rels.length q.d] ∧ Blk (w8.alloc (.cells #[.int .i64 q.e.op, .int .i64 q.e.n, .int .i64 q.e.m, .int .i64 q.e.kind, .int .i64 q.e.lit.k, .int .i64 q.e.lit.n, .string q.e.lit.s, .slice q.A q.e.args.length q.c, .slice q.R q.e.rels.length q.d] 30)) g7 30 #[.int .i64 p.e.op, .int .i64 p.e.n, .int .i64 p.e.m, .int .i64 p.e.kind, .int .i64 p.e.lit.k, .int .i64 p.e.lit.n, .string p.e.lit.s, .slice p.A p.e.args.length p.c, .slice p.R p.e.rels.length p.d] ∧ p.ok (w8.alloc (.cells #[.int .i64 q.e.op, .int .i64 q.e.n, .int .i64 q.e.m, .int .i64 q.e.kind, .int .i64 q.e.lit.k, .int .i64 q.e.lit.n, .string q.e.lit.s, .slice q.A q.e.args.length q.c, .slice q.R q.e.rels.length q.d] 30)) (Lo ((w8.alloc (.cells #[.int .i64 q.e.op, .int .i64 q.e.n, .int .i64 q.e.m, .int .i64 q.e.kind, .int .i64 q.e.lit.k, .int .i64 q.e.lit.n, .string q.e.lit.s, .slice q.A q.e.args.length q.c, .slice q.R q.e.rels.length q.d] 30))).heap.size) ∧ q.ok (w8.alloc (.cells #[.int .i64 q.e.op, .int .i64 q.e.n, .int .i64 q.e.m, .int .i64 q.e.kind, .int .i64 q.e.lit.k, .int .i64 q.e.lit.n, .string q.e.lit.s, .slice q.A q.e.args.length q.c, .slice q.R q.e.rels.length q.d] 30)) (Lo ((w8.alloc (.cells #[.int .i64 q.e.op, .int .i64 q.e.n, .int .i64 q.e.m, .int .i64 q.e.kind, .int .i64 q.e.lit.k, .int .i64 q.e.lit.n, .string q.e.lit.s, .slice q.A q.e.args.length q.c, .slice q.R q.e.rels.length q.d] 30))).heap.size)) := Lib.hid ⟨thn H7.out.1 hbq, by rw [hg9]; exact Blk.new _ _ _, H7.out.2.2.1.below hbq H7.out.2.2.1.lt, H7.out.2.2.2.kept (fun b h => hbq.block b h) (fun b h => Nat.lt_of_lt_of_le h hbq.size), hqok.kept (fun b hb => Below.heap_alloc w8 _ b hb.2) fun b hb => by have := hb.2; simp; omega⟩
        have HQe := Lib.hid hqe
        clear hb8 hqok hqe hbq HRm H7 x0 x1 x2 x3 x4 x5 x6 x7 x8
        unfold HE.val E.val
        go_upto_region 6 with fail
        change Code.wp _ _ _ _ (w8.alloc (.cells #[.int .i64 q.e.op, .int .i64 q.e.n, .int .i64 q.e.m, .int .i64 q.e.kind, .int .i64 q.e.lit.k, .int .i64 q.e.lit.n, .string q.e.lit.s, .slice q.A q.e.args.length q.c, .slice q.R q.e.rels.length q.d] 30))
        rw [← hg9]
        clear hg9
        generalize (w8.alloc (.cells #[.int .i64 q.e.op, .int .i64 q.e.n, .int .i64 q.e.m, .int .i64 q.e.kind, .int .i64 q.e.lit.k, .int .i64 q.e.lit.n, .string q.e.lit.s, .slice q.A q.e.args.length q.c, .slice q.R q.e.rels.length q.d] 30)) = w9 at *
        have HBr : Hid (∀ W, Calls Tryz.prog 16 #[.agg #[.int .i64 p.e.op, .int .i64 p.e.n, .int .i64 p.e.m, .int .i64 p.e.kind, .int .i64 p.e.lit.k, .int .i64 p.e.lit.n, .string p.e.lit.s, .slice p.A p.e.args.length p.c, .slice p.R p.e.rels.length p.d]] W fun x w2 => x = .returned (.bool true) ∧ Below W.heap.size W w2) := Lib.hid fun W => by rw [HPe.out]; exact bare0_any p.A p.R p.c p.d W
        have hq := H9.out.2.2.1
        have x0 := hq.cell 0
        have x1 := hq.cell 1
        have x2 := hq.cell 2
        have x3 := hq.cell 3
        have x4 := hq.cell 4
        have x5 := hq.cell 5
        have x6 := hq.cell 6
        have x7 := hq.cell 7
        have x8 := hq.cell 8
        simp only [List.getElem?_toArray, List.getElem?_cons_succ, List.getElem?_cons_zero] at x0 x1 x2 x3 x4 x5 x6 x7 x8
        clear hq
        go_wp2_with fail
        refine (HBr.out w9).mono ?_
        rintro x w11 ⟨rfl, hb11⟩
        have H11 := Lib.hid (thn H9.out.1 hb11)
        clear hb11 HBr x0 x1 x2 x3 x4 x5 x6 x7 x8
        go_wp2_with fail
        refine (HAw.out w11 H11.out).mono ?_
        rintro x w12 ⟨rfl, hb12⟩
        have H12 := Lib.hid (thn HGW.out.2.2 (thn H11.out hb12))
        clear hb12
        go_wp2_with fail
        go_ret
        exact ⟨rfl, H12.out⟩
      | false =>
        have hms : mvS ps h.e = (mapE (mvF ps) h.e, 0) := by unfold mvS; rw [if_pos hq, hbad]; rfl
        have hmr : mvR ps h.e = (mapE (mvF ps) h.e, true) := by unfold mvR; rw [hbad]; rfl
        have hnd : Hid (nodesE (mapE (mvF ps) h.e) < 1000000) := Lib.hid (by
          have hg := mv_good (formE_iff.1 hq).1 hbad
          rw [(moved_form (formE_iff.1 hq).1 fun x hx h1 => ?_).2]
          · exact E1.out.1.n
          · obtain ⟨h0, hl⟩ := hg x hx h1
            have hm : x.n ∈ clmE h.e := (clm_lvs (formE_iff.1 hq).1 _).2 ⟨x, hx, h1, rfl⟩
            have hf := List.any_eq_false.1 hbad _ hm
            unfold badMv at hf
            rw [List.getElem?_eq_getElem hl] at hf ⊢
            simp at hf
            exact ⟨(ps[x.n.toNat]).toNat, by rw [Int.toNat_of_nonneg hf]⟩)
        rw [hms] at HMv
        clear hms hbad
        unfold E.val at HMv
        have hq := B5.out
        have x0 := hq.cell 0
        have x1 := hq.cell 1
        have x2 := hq.cell 2
        have x3 := hq.cell 3
        have x4 := hq.cell 4
        have x5 := hq.cell 5
        have x6 := hq.cell 6
        have x7 := hq.cell 7
        have x8 := hq.cell 8
        simp only [List.getElem?_toArray, List.getElem?_cons_succ, List.getElem?_cons_zero] at x0 x1 x2 x3 x4 x5 x6 x7 x8
        clear hq
        go_wp2_with fail
        refine HMv.out.mono ?_
        rintro x w3 ⟨p, hpe, rfl, hb3, hpok⟩
        obtain ⟨g7, hg7⟩ : ∃ g, g = w3.heap.size := ⟨_, rfl⟩
        have hbp : Below ww.heap.size ww (w3.alloc (.cells #[.int .i64 p.e.op, .int .i64 p.e.n, .int .i64 p.e.m, .int .i64 p.e.kind, .int .i64 p.e.lit.k, .int .i64 p.e.lit.n, .string p.e.lit.s, .slice p.A p.e.args.length p.c, .slice p.R p.e.rels.length p.d] 30)) := al hb3 _
        have H6 : Hid (Below ww.heap.size ww (w3.alloc (.cells #[.int .i64 p.e.op, .int .i64 p.e.n, .int .i64 p.e.m, .int .i64 p.e.kind, .int .i64 p.e.lit.k, .int .i64 p.e.lit.n, .string p.e.lit.s, .slice p.A p.e.args.length p.c, .slice p.R p.e.rels.length p.d] 30)) ∧ Blk (w3.alloc (.cells #[.int .i64 p.e.op, .int .i64 p.e.n, .int .i64 p.e.m, .int .i64 p.e.kind, .int .i64 p.e.lit.k, .int .i64 p.e.lit.n, .string p.e.lit.s, .slice p.A p.e.args.length p.c, .slice p.R p.e.rels.length p.d] 30)) g5 30 #[.int .i64 h.e.op, .int .i64 h.e.n, .int .i64 h.e.m, .int .i64 h.e.kind, .int .i64 h.e.lit.k, .int .i64 h.e.lit.n, .string h.e.lit.s, .slice h.A h.e.args.length h.c, .slice h.R h.e.rels.length h.d] ∧ Blk (w3.alloc (.cells #[.int .i64 p.e.op, .int .i64 p.e.n, .int .i64 p.e.m, .int .i64 p.e.kind, .int .i64 p.e.lit.k, .int .i64 p.e.lit.n, .string p.e.lit.s, .slice p.A p.e.args.length p.c, .slice p.R p.e.rels.length p.d] 30)) g7 30 #[.int .i64 p.e.op, .int .i64 p.e.n, .int .i64 p.e.m, .int .i64 p.e.kind, .int .i64 p.e.lit.k, .int .i64 p.e.lit.n, .string p.e.lit.s, .slice p.A p.e.args.length p.c, .slice p.R p.e.rels.length p.d] ∧ p.ok (w3.alloc (.cells #[.int .i64 p.e.op, .int .i64 p.e.n, .int .i64 p.e.m, .int .i64 p.e.kind, .int .i64 p.e.lit.k, .int .i64 p.e.lit.n, .string p.e.lit.s, .slice p.A p.e.args.length p.c, .slice p.R p.e.rels.length p.d] 30)) (Lo ((w3.alloc (.cells #[.int .i64 p.e.op, .int .i64 p.e.n, .int .i64 p.e.m, .int .i64 p.e.kind, .int .i64 p.e.lit.k, .int .i64 p.e.lit.n, .string p.e.lit.s, .slice p.A p.e.args.length p.c, .slice p.R p.e.rels.length p.d] 30))).heap.size)) := Lib.hid ⟨hbp, B5.out.below hbp B5.out.lt, by rw [hg7]; exact Blk.new _ _ _, hpok.kept (fun b hb => Below.heap_alloc w3 _ b hb.2) fun b hb => by have := hb.2; simp; omega⟩
        have HPe := Lib.hid hpe
        clear hb3 hpok hpe hbp HMv x0 x1 x2 x3 x4 x5 x6 x7 x8
        unfold HE.val E.val
        go_upto_region 3 with fail
        change Code.wp _ _ _ _ (w3.alloc (.cells #[.int .i64 p.e.op, .int .i64 p.e.n, .int .i64 p.e.m, .int .i64 p.e.kind, .int .i64 p.e.lit.k, .int .i64 p.e.lit.n, .string p.e.lit.s, .slice p.A p.e.args.length p.c, .slice p.R p.e.rels.length p.d] 30))
        rw [← hg7]
        clear hg7
        generalize (w3.alloc (.cells #[.int .i64 p.e.op, .int .i64 p.e.n, .int .i64 p.e.m, .int .i64 p.e.kind, .int .i64 p.e.lit.k, .int .i64 p.e.lit.n, .string p.e.lit.s, .slice p.A p.e.args.length p.c, .slice p.R p.e.rels.length p.d] 30)) = w6 at *
        have HFc := Lib.hid (HF.out w6 H6.out.1)
        rw [hq] at HFc
        unfold E.val at HFc
        clear hq HF
        have hq := H6.out.2.1
        have x0 := hq.cell 0
        have x1 := hq.cell 1
        have x2 := hq.cell 2
        have x3 := hq.cell 3
        have x4 := hq.cell 4
        have x5 := hq.cell 5
        have x6 := hq.cell 6
        have x7 := hq.cell 7
        have x8 := hq.cell 8
        simp only [List.getElem?_toArray, List.getElem?_cons_succ, List.getElem?_cons_zero] at x0 x1 x2 x3 x4 x5 x6 x7 x8
        clear hq
        go_wp2_with fail
        refine HFc.out.mono ?_
        rintro x w7 ⟨rfl, hb7⟩
        have H7 : Hid (Below ww.heap.size ww w7 ∧ Blk w7 g5 30 #[.int .i64 h.e.op, .int .i64 h.e.n, .int .i64 h.e.m, .int .i64 h.e.kind, .int .i64 h.e.lit.k, .int .i64 h.e.lit.n, .string h.e.lit.s, .slice h.A h.e.args.length h.c, .slice h.R h.e.rels.length h.d] ∧ Blk w7 g7 30 #[.int .i64 p.e.op, .int .i64 p.e.n, .int .i64 p.e.m, .int .i64 p.e.kind, .int .i64 p.e.lit.k, .int .i64 p.e.lit.n, .string p.e.lit.s, .slice p.A p.e.args.length p.c, .slice p.R p.e.rels.length p.d] ∧ p.ok w7 (Lo w7.heap.size)) := Lib.hid ⟨thn H6.out.1 hb7, H6.out.2.1.below hb7 H6.out.2.1.lt, H6.out.2.2.1.below hb7 H6.out.2.2.1.lt, H6.out.2.2.2.kept (fun b h => hb7.block b h) fun b h => Nat.lt_of_lt_of_le h hb7.size⟩
        clear hb7 HFc x0 x1 x2 x3 x4 x5 x6 x7 x8
        have HRm := Lib.hid (RMoved_any h.e h.A h.R h.c h.d ps A8 c8 w7 HFt.out (E1.out.1.below H7.out.1) (I8.out.kept (fun b h => H7.out.1.block b h) fun b h => Nat.lt_of_lt_of_le h H7.out.1.size) hp40)
        rw [hmr] at HRm
        unfold E.val at HRm
        have hq := H7.out.2.1
        have x0 := hq.cell 0
        have x1 := hq.cell 1
        have x2 := hq.cell 2
        have x3 := hq.cell 3
        have x4 := hq.cell 4
        have x5 := hq.cell 5
        have x6 := hq.cell 6
        have x7 := hq.cell 7
        have x8 := hq.cell 8
        simp only [List.getElem?_toArray, List.getElem?_cons_succ, List.getElem?_cons_zero] at x0 x1 x2 x3 x4 x5 x6 x7 x8
        clear hq
        go_wp2_with fail
        refine HRm.out.mono ?_
        rintro x w8 ⟨q, hqe, rfl, hb8, hqok⟩
        obtain ⟨g9, hg9⟩ : ∃ g, g = w8.heap.size := ⟨_, rfl⟩
        have hbq : Below w7.heap.size w7 (w8.alloc (.cells #[.int .i64 q.e.op, .int .i64 q.e.n, .int .i64 q.e.m, .int .i64 q.e.kind, .int .i64 q.e.lit.k, .int .i64 q.e.lit.n, .string q.e.lit.s, .slice q.A q.e.args.length q.c, .slice q.R q.e.rels.length q.d] 30)) := al hb8 _
        have H9 : Hid (Below ww.heap.size ww (w8.alloc (.cells #[.int .i64 q.e.op, .int .i64 q.e.n, .int .i64 q.e.m, .int .i64 q.e.kind, .int .i64 q.e.lit.k, .int .i64 q.e.lit.n, .string q.e.lit.s, .slice q.A q.e.args.length q.c, .slice q.R q.e.rels.length q.d] 30)) ∧ Blk (w8.alloc (.cells #[.int .i64 q.e.op, .int .i64 q.e.n, .int .i64 q.e.m, .int .i64 q.e.kind, .int .i64 q.e.lit.k, .int .i64 q.e.lit.n, .string q.e.lit.s, .slice q.A q.e.args.length q.c, .slice q.R q.e.rels.length q.d] 30)) g9 30 #[.int .i64 q.e.op, .int .i64 q.e.n, .int .i64 q.e.m, .int .i64 q.e.kind, .int .i64 q.e.lit.k, .int .i64 q.e.lit.n, .string q.e.lit.s, .slice q.A q.e.args.length q.c, .slice q.R q.e.rels.length q.d] ∧ Blk (w8.alloc (.cells #[.int .i64 q.e.op, .int .i64 q.e.n, .int .i64 q.e.m, .int .i64 q.e.kind, .int .i64 q.e.lit.k, .int .i64 q.e.lit.n, .string q.e.lit.s, .slice q.A q.e.args.length q.c, .slice q.R q.e.rels.length q.d] 30)) g7 30 #[.int .i64 p.e.op, .int .i64 p.e.n, .int .i64 p.e.m, .int .i64 p.e.kind, .int .i64 p.e.lit.k, .int .i64 p.e.lit.n, .string p.e.lit.s, .slice p.A p.e.args.length p.c, .slice p.R p.e.rels.length p.d] ∧ p.ok (w8.alloc (.cells #[.int .i64 q.e.op, .int .i64 q.e.n, .int .i64 q.e.m, .int .i64 q.e.kind, .int .i64 q.e.lit.k, .int .i64 q.e.lit.n, .string q.e.lit.s, .slice q.A q.e.args.length q.c, .slice q.R q.e.rels.length q.d] 30)) (Lo ((w8.alloc (.cells #[.int .i64 q.e.op, .int .i64 q.e.n, .int .i64 q.e.m, .int .i64 q.e.kind, .int .i64 q.e.lit.k, .int .i64 q.e.lit.n, .string q.e.lit.s, .slice q.A q.e.args.length q.c, .slice q.R q.e.rels.length q.d] 30))).heap.size) ∧ q.ok (w8.alloc (.cells #[.int .i64 q.e.op, .int .i64 q.e.n, .int .i64 q.e.m, .int .i64 q.e.kind, .int .i64 q.e.lit.k, .int .i64 q.e.lit.n, .string q.e.lit.s, .slice q.A q.e.args.length q.c, .slice q.R q.e.rels.length q.d] 30)) (Lo ((w8.alloc (.cells #[.int .i64 q.e.op, .int .i64 q.e.n, .int .i64 q.e.m, .int .i64 q.e.kind, .int .i64 q.e.lit.k, .int .i64 q.e.lit.n, .string q.e.lit.s, .slice q.A q.e.args.length q.c, .slice q.R q.e.rels.length q.d] 30))).heap.size)) := Lib.hid ⟨thn H7.out.1 hbq, by rw [hg9]; exact Blk.new _ _ _, H7.out.2.2.1.below hbq H7.out.2.2.1.lt, H7.out.2.2.2.kept (fun b h => hbq.block b h) (fun b h => Nat.lt_of_lt_of_le h hbq.size), hqok.kept (fun b hb => Below.heap_alloc w8 _ b hb.2) fun b hb => by have := hb.2; simp; omega⟩
        have HQe := Lib.hid hqe
        clear hb8 hqok hqe hbq HRm H7 x0 x1 x2 x3 x4 x5 x6 x7 x8
        unfold HE.val E.val
        go_upto_region 6 with fail
        change Code.wp _ _ _ _ (w8.alloc (.cells #[.int .i64 q.e.op, .int .i64 q.e.n, .int .i64 q.e.m, .int .i64 q.e.kind, .int .i64 q.e.lit.k, .int .i64 q.e.lit.n, .string q.e.lit.s, .slice q.A q.e.args.length q.c, .slice q.R q.e.rels.length q.d] 30))
        rw [← hg9]
        clear hg9
        generalize (w8.alloc (.cells #[.int .i64 q.e.op, .int .i64 q.e.n, .int .i64 q.e.m, .int .i64 q.e.kind, .int .i64 q.e.lit.k, .int .i64 q.e.lit.n, .string q.e.lit.s, .slice q.A q.e.args.length q.c, .slice q.R q.e.rels.length q.d] 30)) = w9 at *
        have HSm : Hid (Calls Tryz.prog 19 #[.agg #[.int .i64 p.e.op, .int .i64 p.e.n, .int .i64 p.e.m, .int .i64 p.e.kind, .int .i64 p.e.lit.k, .int .i64 p.e.lit.n, .string p.e.lit.s, .slice p.A p.e.args.length p.c, .slice p.R p.e.rels.length p.d], .agg #[.int .i64 q.e.op, .int .i64 q.e.n, .int .i64 q.e.m, .int .i64 q.e.kind, .int .i64 q.e.lit.k, .int .i64 q.e.lit.n, .string q.e.lit.s, .slice q.A q.e.args.length q.c, .slice q.R q.e.rels.length q.d]] w9 fun x w2 => x = .returned (.bool true) ∧ Below w9.heap.size w9 w2) := Lib.hid (by
          have k := RSame_any 1000000 p.e q.e p.A p.R p.c p.d q.A q.R q.c q.d w9 (by rw [HPe.out]; exact hnd.out) (Nat.le_refl _) H9.out.2.2.2.1.1 H9.out.2.2.2.2.1
          have e1 : p.e = q.e := HPe.out.trans HQe.out.symm
          rw [e1, sameE_self] at k
          rw [e1]
          unfold E.val at k
          exact k)
        have hq := H9.out.2.2.1
        have x0 := hq.cell 0
        have x1 := hq.cell 1
        have x2 := hq.cell 2
        have x3 := hq.cell 3
        have x4 := hq.cell 4
        have x5 := hq.cell 5
        have x6 := hq.cell 6
        have x7 := hq.cell 7
        have x8 := hq.cell 8
        simp only [List.getElem?_toArray, List.getElem?_cons_succ, List.getElem?_cons_zero] at x0 x1 x2 x3 x4 x5 x6 x7 x8
        clear hq
        have hq := H9.out.2.1
        have y0 := hq.cell 0
        have y1 := hq.cell 1
        have y2 := hq.cell 2
        have y3 := hq.cell 3
        have y4 := hq.cell 4
        have y5 := hq.cell 5
        have y6 := hq.cell 6
        have y7 := hq.cell 7
        have y8 := hq.cell 8
        simp only [List.getElem?_toArray, List.getElem?_cons_succ, List.getElem?_cons_zero] at y0 y1 y2 y3 y4 y5 y6 y7 y8
        clear hq
        go_wp2_with fail
        refine HSm.out.mono ?_
        rintro x w11 ⟨rfl, hb11⟩
        have H11 := Lib.hid (thn H9.out.1 hb11)
        clear hb11 HSm x0 x1 x2 x3 x4 x5 x6 x7 x8 y0 y1 y2 y3 y4 y5 y6 y7 y8
        go_wp2_with fail
        refine (HAw.out w11 H11.out).mono ?_
        rintro x w12 ⟨rfl, hb12⟩
        have H12 := Lib.hid (thn HGW.out.2.2 (thn H11.out hb12))
        clear hb12
        go_wp2_with fail
        go_ret
        exact ⟨rfl, H12.out⟩
end Go.Proofs.YtdiehgfldndgbaaGreatDoor
