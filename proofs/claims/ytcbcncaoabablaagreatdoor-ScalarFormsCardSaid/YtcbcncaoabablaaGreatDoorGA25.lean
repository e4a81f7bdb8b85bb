/-
  Cat: CONTRACT of slices.Concat at lists of expressions.
  Cnj: CONTRACT of scalar.conjuncts.
-/
import Derived.Test.YtcbcncaoabablaaGreatDoorGA20
import Derived.Test.YtcbcncaoabablaaGreatDoorSort
import Derived.Test.YtcbcncaoabablaaGreatDoorGA07
namespace Go.Proofs.YtcbcncaoabablaaGreatDoor
open Go.RowKit Go.Deep

/-- held expressions lie in cells -/
def HReads (w : World) (P : Nat → Prop) (A : Option Addr) (hs : List HE) : Prop :=
  0 < hs.length → ∃ b o, A = some ⟨b, o, none⟩ ∧ P b ∧ ∀ (i : Nat) (h : HE), hs[i]? = some h → ∀ j, j < 9 → w.cell? ⟨b, o + i * 9 + j, none⟩ = h.cells[j]?
theorem LOk.held {w : World} {P : Nat → Prop} : ∀ {l : List E} {A : Option Addr}, LOk w P A l → ∃ hs : List HE, hs.map HE.e = l ∧ HReads w P A hs ∧ ∀ h ∈ hs, h.ok w P
  | [], A, _ => ⟨[], rfl, fun h => absurd h (Nat.lt_irrefl 0), fun h hh => by cases hh⟩
  | e :: l, A, hl => by
    rw [LOk] at hl
    obtain ⟨b, o, rfl, hP, he, hl⟩ := hl
    obtain ⟨hs, h1, h2, h3⟩ := LOk.held hl
    obtain ⟨z0, z1, z2, z3, z4, z5, z6, ⟨A', c', z7, z8⟩, R', d', z9, z10⟩ := EOk.mk_.1 he
    refine ⟨⟨e, A', c', R', d'⟩ :: hs, by rw [List.map_cons, h1], fun _ => ⟨b, o, rfl, hP, fun i h hi j hj => ?_⟩, fun h hh => ?_⟩
    · cases i with
      | zero =>
        simp only [List.getElem?_cons_zero, Option.some.injEq] at hi
        subst hi
        rw [Nat.zero_mul, Nat.add_zero]
        have hj' : j = 0 ∨ j = 1 ∨ j = 2 ∨ j = 3 ∨ j = 4 ∨ j = 5 ∨ j = 6 ∨ j = 7 ∨ j = 8 := by omega
        rcases hj' with rfl | rfl | rfl | rfl | rfl | rfl | rfl | rfl | rfl <;> assumption
      | succ i =>
        simp only [List.getElem?_cons_succ] at hi
        obtain ⟨b', o', e1, _, hc⟩ := h2 (Nat.lt_of_le_of_lt (Nat.zero_le _) (List.getElem?_eq_some_iff.1 hi).1)
        injection e1 with e1
        injection e1 with e1 e2 _
        subst e1 e2
        have := hc i h hi j hj
        rw [show o + 9 + i * 9 + j = o + (i + 1) * 9 + j by omega] at this
        exact this
    · rcases List.mem_cons.1 hh with rfl | hh
      · exact ⟨z8, z10⟩
      · exact h3 h hh
theorem HReads.reads {w : World} {P : Nat → Prop} {B : Nat} {A : Option Addr} {hs : List HE} (h : HReads w P A hs) (hB : ∀ b, P b → b < B) : Reads w B 9 A hs.length (hcells hs) := ⟨hcells_len hs, fun h0 => by
  obtain ⟨b, o, rfl, hP, hc⟩ := h h0
  refine ⟨_, rfl, hB b hP, fun j x hj => ?_⟩
  have hjl : j < hs.length * 9 := by have := (List.getElem?_eq_some_iff.1 hj).1; rwa [hcells_len] at this
  have hi : j / 9 < hs.length := by omega
  rw [addN]
  have k := hcells_at hs (j / 9) (j % 9) hs[j / 9] (List.getElem?_eq_getElem hi) (by omega)
  have c := hc (j / 9) hs[j / 9] (List.getElem?_eq_getElem hi) (j % 9) (by omega)
  rw [show j / 9 * 9 + j % 9 = j by omega] at k
  rw [show o + j / 9 * 9 + j % 9 = o + j by omega] at c
  rw [c, ← k]; exact hj⟩
theorem Grow_any (n : Nat) (w : World) (hn : n ≤ 1000000) : Calls Tryz.prog 111 #[.slice none 0 0, .int .i64 n] w fun x w' => ∃ v, x = .returned v ∧ w'.ownsRow w.heap.size 29 9 v 0 [] ∧ Below w.heap.size w w' := by
  obtain ⟨i0, hi, hz0, hz1, hz2⟩ := info_parts infoE
  by_cases h0 : n = 0
  · subst h0
    exact (Any8.slices_Grow_room Tryz.growE none 0 0 0 w (Nat.le_refl _) (by omega) (by omega) (Nat.le_refl _)).mono fun x w' ⟨h1, h2⟩ => ⟨_, h1, ⟨rfl, .inl ⟨rfl, rfl⟩⟩, by rw [h2]; exact Below.refl _ _⟩
  · have key : ∀ (cur : Array Value) (cap : Nat), cur.size = cap * 9 → cap ≤ maxLen → (w.drew.alloc (.cells cur 29)).ownsRow w.heap.size 29 9 (.slice (some ⟨w.heap.size, 0, none⟩) 0 cap) 0 [] := fun cur cap h1 h2 => ⟨rfl, .inr ⟨w.heap.size, cap, cur, rfl, Nat.le_refl _, Blk.new w.drew _ _, Nat.zero_le _, h2, h1, by simp⟩⟩
    refine (Any8.slices_Grow_grow Tryz.growE i0 _ hi hz0 (by omega) none 0 0 n [] w (Nat.le_refl _) (by omega) (by rw [hz2]; omega) (by omega) (by simp) (fun _ => rfl) (fun a h => by cases h)).mono fun x w' ⟨h1, h2⟩ => ⟨_, h1, ?_, ?_⟩
    · rw [h2]
      refine key _ _ ?_ (grownCap_le_maxLen w (0 + n) 0 _ (by unfold maxLen; omega))
      rw [Array.size_append, Array.size_append, size_zeroCells, size_zeroCells]
      have hge := grownCap_ge w (0 + n) 0 29
      have hz9 : (Value.agg #[.int .i64 0, .int .i64 0, .int .i64 0, .int .i64 0, .int .i64 0, .int .i64 0, .string ⟨#[]⟩, .slice none 0 0, .slice none 0 0]).cells.size = 9 := rfl
      rw [hz9]
      show 0 + (0 + n - 0) * 9 + (grownCap w (0 + n) 0 29 - (0 + n)) * 9 = grownCap w (0 + n) 0 29 * 9
      omega
    · rw [h2]
      exact al ((Below.refl _ _).drew) _
set_option maxHeartbeats 4000000 in
set_option maxRecDepth 100000 in
theorem Concat_any (g cap : Nat) (ls : List (List E)) (P : Nat → Prop) (w : World) (hg : g < w.heap.size) (hP : ∀ b, P b → b < w.heap.size)
    (hC : ∀ (i : Nat) (l : List E), ls[i]? = some l → ∃ (Ax : Option Addr) (cx : Nat), w.cell? ⟨g, i, none⟩ = some (.slice Ax l.length cx) ∧ LOk w P Ax l) (hs : (ls.map List.length).sum ≤ 100000) (hn : ls.length ≤ 100000) :
    Calls Tryz.prog 63 #[.slice (some ⟨g, 0, none⟩) ls.length cap] w fun x w' => ∃ (A : Option Addr) (c : Nat), x = .returned (.slice A ls.flatten.length c) ∧ LOk w' (fun b => P b ∨ (w.heap.size ≤ b ∧ b < w'.heap.size)) A ls.flatten ∧ Below w.heap.size w w' := by
  have HA := Lib.hid (And.intro hC (And.intro hg (And.intro hP hs)))
  have HTk : Hid (∀ j (h : j < ls.length), ((ls.take (j + 1)).map List.length).sum = ((ls.take j).map List.length).sum + ls[j].length) := Lib.hid fun j h => by
    rw [List.take_succ_eq_append_getElem h, List.map_append, List.sum_append]; simp
  have HTl : Hid (∀ j, ((ls.take j).map List.length).sum ≤ (ls.map List.length).sum) := Lib.hid fun j => by
    conv => rhs; rw [← List.take_append_drop j ls, List.map_append, List.sum_append]
    omega
  have HGr := Lib.hid (fun n (hn : n ≤ 1000000) => Grow_any n w hn)
  clear hC hg hP hs
  go_enter Tryz.func63, Tryz.ntmps63
  go_wp2_with fail
  go_loopw [3, 11] (fun sz iv wr => ∃ j q : Nat, j ≤ ls.length ∧ iv = .int .i64 j ∧ sz = .int .i64 q ∧ q ≤ 100000 ∧ Hid (q = ((ls.take j).map List.length).sum) ∧ wr = w) (fun _ iv _ => ls.length - (intOf iv).toNat)
  case atStart => exact ⟨0, 0, Nat.zero_le _, rfl, rfl, Nat.zero_le _, Lib.hid rfl, rfl⟩
  case round =>
    obtain ⟨j, q, hj, rfl, rfl, hq, HQ, hw⟩ := hrel
    obtain rfl := hw.symm
    by_cases hlt : j < ls.length
    · have hlti : (j : Int) < (ls.length : Int) := by omega
      obtain ⟨Ax, cx, hcell, _⟩ := HA.out.1 j ls[j] (List.getElem?_eq_getElem hlt)
      have hb2 : q + ls[j].length ≤ 100000 := by
        have h1 := HTl.out (j + 1)
        rw [HTk.out j hlt, ← HQ.out] at h1
        have := HA.out.2.2.2
        omega
      have HQ2 : Hid (q + ls[j].length = ((ls.take (j + 1)).map List.length).sum) := Lib.hid (by rw [HTk.out j hlt, ← HQ.out])
      generalize ls[j].length = n at *
      have hneg : ¬ ((q : Int) + (n : Int) < 0) := by omega
      have hgl := HA.out.2.1
      clear HQ
      go_wp2_with fail
      go_roundw
      case rel => exact ⟨j + 1, q + n, by omega, by go_num, by go_num, hb2, HQ2, by first | rfl | trivial⟩
      case measure => simp [intOf]; omega
    · have hlf : decide ((j : Int) < (ls.length : Int)) = false := decide_eq_false (by omega)
      clear HQ HTk HTl
      go_wp2_with fail
      refine (HGr.out q (by omega)).mono ?_
      rintro x w2 ⟨v2, rfl, hown2, hb2⟩
      obtain ⟨i0, hi, hz0, hz1, hz2⟩ := info_parts infoE
      have H2 := Lib.hid (And.intro hown2 hb2)
      clear hown2 hb2 hq hlf
      go_wp2_with fail
      go_loopw [6, 27] (fun v iv wr => ∃ (k : Nat) (hs : List HE), k ≤ ls.length ∧ iv = .int .i64 k ∧ Hid (wr.ownsRow w.heap.size 29 9 v hs.length (hcells hs)) ∧ Hid (Below w.heap.size w wr ∧ hs.map HE.e = (ls.take k).flatten ∧ ∀ x ∈ hs, x.ok wr P)) (fun _ iv _ => ls.length - (intOf iv).toNat)
      case atStart => exact ⟨0, [], Nat.zero_le _, rfl, Lib.hid H2.out.1, Lib.hid ⟨H2.out.2, rfl, fun x hx => by cases hx⟩⟩
      case round =>
        clear H2 HGr
        obtain ⟨k, hs, hk, rfl, HO, HB⟩ := hrel
        by_cases hkt : k < ls.length
        · have hlti : (k : Int) < (ls.length : Int) := by omega
          obtain ⟨Ax, cx, hcell, hL⟩ := HA.out.1 k ls[k] (List.getElem?_eq_getElem hkt)
          obtain ⟨hx, hxm, hxr, hxo⟩ := LOk.held (hL.kept (P' := P) (fun b hb => HB.out.1.block b (HA.out.2.2.1 b hb)) fun b hb => hb)
          have hxl : hx.length = ls[k].length := by rw [← hxm, List.length_map]
          have hcell2 : wr.cell? ⟨g, k, none⟩ = some (.slice Ax hx.length cx) := by rw [hxl]; exact (HB.out.1.cell (p := ⟨g, k, none⟩) HA.out.2.1).trans hcell
          have HTake : Hid ((hs ++ hx).map HE.e = (ls.take (k + 1)).flatten) := Lib.hid (by
            rw [List.take_succ_eq_append_getElem hkt, List.flatten_append, List.map_append, HB.out.2.1, hxm]; simp)
          have hsum : hs.length + hx.length ≤ 100000 := by
            have h1 := congrArg List.length HTake.out
            rw [List.length_map, List.length_append, List.length_flatten] at h1
            have h2 := HA.out.2.2.2
            have h3 : ((ls.take (k + 1)).map List.length).sum ≤ (ls.map List.length).sum := by
              conv => rhs; rw [← List.take_append_drop (k + 1) ls, List.map_append, List.sum_append]
              omega
            omega
          have HX := Lib.hid (And.intro (hxr.reads (B := wr.heap.size) fun b hb => Nat.lt_of_lt_of_le (HA.out.2.2.1 b hb) HB.out.1.size) hxo)
          have hbs := HB.out.1.size
          clear hcell hL hxm hxr hxo hxl
          go_wp2_with (at_builtin; refine wpList_append_any _ rfl (.tmp 31) (.tmp 32) 26 rfl w.heap.size 29 i0 (.agg #[.int .i64 0, .int .i64 0, .int .i64 0, .int .i64 0, .int .i64 0, .int .i64 0, .string ⟨#[]⟩, .slice none 0 0, .slice none 0 0]) 9 112 Tryz.underlying26 hi hz0 hz1 hz2 rfl (by decide) _ _ _ rfl HO.out wr.heap.size _ _ _ (hcells hx) rfl ?c0 ?c1 ?c2 ?c3 ?c4 ?_)
          case c0 => exact HX.out.1
          case c1 => exact hcells_one _
          case c2 => unfold maxLen; omega
          case c3 => omega
          case c4 => exact hbs
          intro v' w1 hown1 hgrow _
          have HO1 : Hid (w1.ownsRow w.heap.size 29 9 v' (hs ++ hx).length (hcells (hs ++ hx))) := Lib.hid (by
            rw [hcells_append, List.length_append]
            exact hown1)
          have HB1 : Hid (Below w.heap.size w w1 ∧ (hs ++ hx).map HE.e = (ls.take (k + 1)).flatten ∧ ∀ x ∈ hs ++ hx, x.ok w1 P) := Lib.hid (by
            have hb1 : Below w.heap.size w w1 := HB.out.1.grown hgrow hbs (own_base HO.out)
            refine ⟨hb1, HTake.out, fun x hx2 => ?_⟩
            have ho : x.ok wr P := by
              rcases List.mem_append.1 hx2 with h | h
              · exact HB.out.2.2 x h
              · exact HX.out.2 x h
            exact ho.kept (fun b hb => (hb1.block b (HA.out.2.2.1 b hb)).trans (HB.out.1.block b (HA.out.2.2.1 b hb)).symm) fun b hb => hb)
          clear hown1 hgrow
          go_wp2_with fail
          go_roundw
          case rel => exact ⟨k + 1, hs ++ hx, by omega, by go_num, HO1, HB1⟩
          case measure => simp [intOf]; omega
        · have hlf : decide ((k : Int) < (ls.length : Int)) = false := decide_eq_false (by omega)
          have hme : hs.map HE.e = ls.flatten := by rw [HB.out.2.1, List.take_of_length_le (by omega)]
          obtain ⟨A, c, rfl, hL⟩ := LOk.own (P := fun b => P b ∨ (w.heap.size ≤ b ∧ b < wr.heap.size)) HO.out (fun x hx => (HB.out.2.2 x hx).kept (fun _ _ => rfl) fun b hb => .inl hb) fun g' hg' => .inr (HO.out.lt g' hg')
          rw [hme] at hL
          have hll : hs.length = ls.flatten.length := by rw [← hme, List.length_map]
          have HF := Lib.hid (And.intro hL (And.intro HB.out.1 hll))
          clear hme hL hll HO HB
          go_wp2_with fail
          go_ret
          exact ⟨A, c, by rw [HF.out.2.2]; rfl, HF.out.1, HF.out.2.1⟩
end Go.Proofs.YtcbcncaoabablaaGreatDoor
namespace Go.Proofs.YtcbcncaoabablaaGreatDoor
open Go.RowKit Go.Deep

theorem conjL_flat : ∀ l : List E, conjL l = (l.map conjE).flatten
  | [] => rfl
  | e :: l => by rw [conjL, List.map_cons, List.flatten_cons, conjL_flat l]
theorem conjE_of (e : E) : conjE e = if e.op = 19 then (e.args.map conjE).flatten else [e] := by
  obtain ⟨op, n, m, k, lit, args, rels⟩ := e
  rw [conjE, conjL_flat]; rfl
mutual
theorem conjE_len : ∀ e : E, (conjE e).length ≤ nodesE e
  | .mk op n m k lit args rels => by
    have h1 := conjL_len args
    have h2 := nodesE_args (.mk op n m k lit args rels)
    have h3 : (E.mk op n m k lit args rels).args = args := rfl
    rw [h3] at h2
    rw [conjE]
    split
    · omega
    · simp; omega
theorem conjL_len : ∀ l : List E, (conjL l).length ≤ nodesL l
  | [] => by simp [conjL]
  | e :: l => by
    have h1 := conjE_len e
    have h2 := conjL_len l
    rw [conjL, List.length_append]
    simp only [nodesL]
    omega
end
set_option maxHeartbeats 4000000 in
set_option maxRecDepth 100000 in
theorem conjuncts_any : ∀ (k q : Nat) (e : E) (A R : Option Addr) (c d : Nat) (w : World), nodesE e < k → k ≤ 10000 → shapedE q e = true → LOk w (Lo w.heap.size) A e.args →
    Calls Tryz.prog 34 #[e.val A c R d] w fun x w' => ∃ (A' : Option Addr) (c' : Nat), x = .returned (.slice A' (conjE e).length c') ∧ LOk w' (In2 0 w.heap.size w'.heap.size) A' (conjE e) ∧ Below w.heap.size w w' := by
  intro k
  induction k with
  | zero => intro q e A R c d w h; exact absurd h (Nat.not_lt_zero _)
  | succ k ih =>
    intro q e A R c d w hk hk1 hsh hA
    obtain ⟨q, rfl⟩ : ∃ q', q = q' + 1 := by
      cases q with
      | zero => rw [shapedE_zero] at hsh; cases hsh
      | succ q => exact ⟨q, rfl⟩
    have hnE := nodesE_args e
    have hln := nodesL_len e.args
    have hcl := conjL_len e.args
    have hb1 : Below w.heap.size w (w.alloc (.cells #[.int .i64 e.op, .int .i64 e.n, .int .i64 e.m, .int .i64 e.kind, .int .i64 e.lit.k, .int .i64 e.lit.n, .string e.lit.s, .slice A e.args.length c, .slice R e.rels.length d] 29)) := al (Below.refl _ _) _
    have HB := Lib.hid (And.intro hb1 (Blk.new w 29 #[.int .i64 e.op, .int .i64 e.n, .int .i64 e.m, .int .i64 e.kind, .int .i64 e.lit.k, .int .i64 e.lit.n, .string e.lit.s, .slice A e.args.length c, .slice R e.rels.length d]))
    have hce := conjE_of e
    by_cases ho : e.op = 19
    · rw [if_pos ho] at hce
      rw [← conjL_flat] at hce
      have hcf := conjL_flat e.args
      rw [hce]
      rw [shapedE_succ, Bool.and_eq_true] at hsh
      have HEa := Lib.hid (eachL_any 34 conjE 0 e.args A c (w.alloc (.cells #[.int .i64 e.op, .int .i64 e.n, .int .i64 e.m, .int .i64 e.kind, .int .i64 e.lit.k, .int .i64 e.lit.n, .string e.lit.s, .slice A e.args.length c, .slice R e.rels.length d] 29)) (Nat.zero_le _) (by omega) (hA.below hb1 hb1.size) (enters_of Tryz.func34 (by kernel_rfl) rfl) fun x hx A' R' c' d' w1 hb hA' =>
        (ih q x A' R' c' d' w1 (by have := nodesL_mem hx; omega) (by omega) (shapedL_mem hsh.2 x hx) hA').mono fun y w2 ⟨Ax, cx, h1, h2, h3⟩ => ⟨Ax, cx, h1, h2, h3⟩)
      have HCt : Hid (∀ (g : Nat) (w1 : World), (w.alloc (.cells #[.int .i64 e.op, .int .i64 e.n, .int .i64 e.m, .int .i64 e.kind, .int .i64 e.lit.k, .int .i64 e.lit.n, .string e.lit.s, .slice A e.args.length c, .slice R e.rels.length d] 29)).heap.size ≤ g ∧ g < w1.heap.size ∧ (∀ (i : Nat) (x : E), e.args[i]? = some x → ∃ (Ax : Option Addr) (cx : Nat), w1.cell? ⟨g, i, none⟩ = some (.slice Ax (conjE x).length cx) ∧ LOk w1 (In2 0 (w.alloc (.cells #[.int .i64 e.op, .int .i64 e.n, .int .i64 e.m, .int .i64 e.kind, .int .i64 e.lit.k, .int .i64 e.lit.n, .string e.lit.s, .slice A e.args.length c, .slice R e.rels.length d] 29)).heap.size w1.heap.size) Ax (conjE x)) →
          Calls Tryz.prog 63 #[.slice (some ⟨g, 0, none⟩) e.args.length e.args.length] w1 fun x w' => ∃ (Az : Option Addr) (cz : Nat), x = .returned (.slice Az (conjL e.args).length cz) ∧ LOk w' (fun b => In2 0 (w.alloc (.cells #[.int .i64 e.op, .int .i64 e.n, .int .i64 e.m, .int .i64 e.kind, .int .i64 e.lit.k, .int .i64 e.lit.n, .string e.lit.s, .slice A e.args.length c, .slice R e.rels.length d] 29)).heap.size w1.heap.size b ∨ (w1.heap.size ≤ b ∧ b < w'.heap.size)) Az (conjL e.args) ∧ Below w1.heap.size w1 w') := Lib.hid fun g w1 ⟨_, h2, h3⟩ => by
        have r := Concat_any g e.args.length (e.args.map conjE) (In2 0 (w.alloc (.cells #[.int .i64 e.op, .int .i64 e.n, .int .i64 e.m, .int .i64 e.kind, .int .i64 e.lit.k, .int .i64 e.lit.n, .string e.lit.s, .slice A e.args.length c, .slice R e.rels.length d] 29)).heap.size w1.heap.size) w1 h2 (fun b hb => hb.2) (fun i l hi => by
          rw [List.getElem?_map] at hi
          obtain ⟨x, hx, rfl⟩ := Option.map_eq_some_iff.1 hi
          exact h3 i x hx) (by rw [← List.length_flatten, ← hcf]; omega) (by rw [List.length_map]; omega)
        rw [List.length_map, ← hcf] at r
        exact r
      clear ih hA hb1 hsh hce hcf hcl
      rw [ho] at HEa HCt HB
      unfold E.val
      rw [ho]
      go_enter Tryz.func34, Tryz.ntmps34
      go_wp2_with fail
      refine HEa.out.mono ?_
      rintro x w2 ⟨g, rfl, hg, hb2⟩
      have H2 := Lib.hid (And.intro (HCt.out g w2 hg) (thn HB.out.1 hb2))
      have hs2 := hb2.size
      have hsW : w.heap.size ≤ w2.heap.size := by have := H2.out.2.size; exact this
      clear hg hb2 HCt HEa
      go_wp2_with fail
      refine H2.out.1.mono ?_
      rintro x w3 ⟨A3, c3, rfl, hL3, hb3⟩
      have H3 : Hid (LOk w3 (In2 0 w.heap.size w3.heap.size) A3 (conjL e.args) ∧ Below w.heap.size w w3) := Lib.hid ⟨hL3.kept (fun _ _ => rfl) (fun b hb => by
        have hs3 := hb3.size
        rcases hb with h | h
        · have h1 := h.1
          have h2 := h.2
          simp at h1
          exact ⟨.inr (by omega), by omega⟩
        · exact ⟨.inr (by omega), h.2⟩), thn H2.out.2 hb3⟩
      clear hL3 hb3 H2
      go_wp2_with fail
      go_ret
      exact ⟨A3, c3, rfl, H3.out.1, H3.out.2⟩
    · rw [if_neg ho] at hce
      rw [hce]
      have hob : (e.op != 19) = true := bne_iff_ne.2 ho
      have HCp := Lib.hid (copied_any e A R c d (q + 1) (w.alloc (.cells #[.int .i64 e.op, .int .i64 e.n, .int .i64 e.m, .int .i64 e.kind, .int .i64 e.lit.k, .int .i64 e.lit.n, .string e.lit.s, .slice A e.args.length c, .slice R e.rels.length d] 29)) hsh (by omega) (hA.below hb1 hb1.size))
      clear ih hA hb1 hsh hce hcl ho
      unfold E.val at HCp ⊢
      go_enter Tryz.func34, Tryz.ntmps34
      go_wp2_with fail
      refine HCp.out.mono ?_
      rintro x w2 ⟨h, hhe, rfl, hb2, hok⟩
      have HP : Hid (Below w.heap.size w (w2.alloc (.cells #[.int .i64 h.e.op, .int .i64 h.e.n, .int .i64 h.e.m, .int .i64 h.e.kind, .int .i64 h.e.lit.k, .int .i64 h.e.lit.n, .string h.e.lit.s, .slice h.A h.e.args.length h.c, .slice h.R h.e.rels.length h.d] 29)) ∧ LOk (w2.alloc (.cells #[.int .i64 h.e.op, .int .i64 h.e.n, .int .i64 h.e.m, .int .i64 h.e.kind, .int .i64 h.e.lit.k, .int .i64 h.e.lit.n, .string h.e.lit.s, .slice h.A h.e.args.length h.c, .slice h.R h.e.rels.length h.d] 29)) (In2 0 w.heap.size (w2.alloc (.cells #[.int .i64 h.e.op, .int .i64 h.e.n, .int .i64 h.e.m, .int .i64 h.e.kind, .int .i64 h.e.lit.k, .int .i64 h.e.lit.n, .string h.e.lit.s, .slice h.A h.e.args.length h.c, .slice h.R h.e.rels.length h.d] 29)).heap.size) (some ⟨w2.heap.size, 0, none⟩) [e]) := Lib.hid (by
        have hsz : (w2.alloc (.cells #[.int .i64 h.e.op, .int .i64 h.e.n, .int .i64 h.e.m, .int .i64 h.e.kind, .int .i64 h.e.lit.k, .int .i64 h.e.lit.n, .string h.e.lit.s, .slice h.A h.e.args.length h.c, .slice h.R h.e.rels.length h.d] 29)).heap.size = w2.heap.size + 1 := by simp
        have hs2 := hb2.size
        have hs1 : (w.alloc (.cells #[.int .i64 e.op, .int .i64 e.n, .int .i64 e.m, .int .i64 e.kind, .int .i64 e.lit.k, .int .i64 e.lit.n, .string e.lit.s, .slice A e.args.length c, .slice R e.rels.length d] 29)).heap.size = w.heap.size + 1 := by simp
        refine ⟨al (thn HB.out.1 hb2) _, LOk.of ⟨.inr (by omega), by omega⟩ fun i hi => ?_⟩
        have hi0 : i = 0 := by simpa using hi
        subst hi0
        show EOk _ _ e _
        rw [← hhe]
        refine (HE.reads (hok.kept (P' := In2 0 w.heap.size (w2.alloc (.cells #[.int .i64 h.e.op, .int .i64 h.e.n, .int .i64 h.e.m, .int .i64 h.e.kind, .int .i64 h.e.lit.k, .int .i64 h.e.lit.n, .string h.e.lit.s, .slice h.A h.e.args.length h.c, .slice h.R h.e.rels.length h.d] 29)).heap.size) (fun b hb => Below.heap_alloc w2 _ b hb.2) fun b hb => ⟨.inr (by have := hb.1; omega), by have := hb.2; omega⟩)).ext fun j hj => ?_
        show (w2.alloc (.cells #[.int .i64 h.e.op, .int .i64 h.e.n, .int .i64 h.e.m, .int .i64 h.e.kind, .int .i64 h.e.lit.k, .int .i64 h.e.lit.n, .string h.e.lit.s, .slice h.A h.e.args.length h.c, .slice h.R h.e.rels.length h.d] 29)).cell? ⟨w2.heap.size, 0 + 0 * 9 + j, none⟩ = _
        rw [show 0 + 0 * 9 + j = j by omega, (Blk.new w2 29 #[.int .i64 h.e.op, .int .i64 h.e.n, .int .i64 h.e.m, .int .i64 h.e.kind, .int .i64 h.e.lit.k, .int .i64 h.e.lit.n, .string h.e.lit.s, .slice h.A h.e.args.length h.c, .slice h.R h.e.rels.length h.d]).cell j]
        simp [HE.cells])
      clear hb2 hok hhe
      unfold HE.val E.val
      go_wp2_with fail
      go_ret
      exact ⟨_, _, rfl, HP.out.2, HP.out.1⟩
end Go.Proofs.YtcbcncaoabablaaGreatDoor
