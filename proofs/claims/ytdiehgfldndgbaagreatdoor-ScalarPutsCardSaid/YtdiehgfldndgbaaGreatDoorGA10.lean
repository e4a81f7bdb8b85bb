/-
  CtE: CONTRACT of the reference's Cut: an expression of at most so many nodes.
  CaG: WORDS for the reference's functions that build an expression's arguments one by one.
-/
import Derived.Test.YtdiehgfldndgbaaGreatDoorGA07
import Derived.Test.YtdiehgfldndgbaaGreatDoorGA06
import Derived.Test.YtdiehgfldndgbaaGreatDoorGA01
import Derived.Deep.CutBlock
import Derived.Deep.DeepCutAuto
namespace Go.Proofs.YtdiehgfldndgbaaGreatDoor
open Go.RowKit Go.Deep


theorem cutE_two (n : Nat) (e : E) : (cutE (n + 1) e).2 = (cutEL n e.args).2 := by cases e; rw [cutE]; rfl
theorem cutE_args (n : Nat) (e : E) : (cutE (n + 1) e).1.args = (cutEL n e.args).1 := by cases e; rw [cutE]; rfl
theorem infoE : (Tryz.prog.info? 30).map (fun i => (i.zero, i.size, i.bytes)) = some (some (.agg #[.int .i64 0, .int .i64 0, .int .i64 0, .int .i64 0, .int .i64 0, .int .i64 0, .string ⟨#[]⟩, .slice none 0 0, .slice none 0 0]), 9, 112) := by kernel_rfl
theorem infoRl : (Tryz.prog.info? 133).map (fun i => (i.zero, i.size, i.bytes)) = some (some (.agg #[.int .i64 0, .string ⟨#[]⟩, .int .i64 0, .int .i64 0, .bool false, .slice none 0 0, .slice none 0 0, .slice none 0 0, .slice none 0 0, .slice none 0 0, .slice none 0 0, .slice none 0 0, .int .i64 0, .int .i64 0, .slice none 0 0]), 15, 256) := by kernel_rfl
/-- a relation of which the operation alone is set -/
def relC (x : Int) : List Value := [.int .i64 x, .string ⟨#[]⟩, .int .i64 0, .int .i64 0, .bool false, .slice none 0 0, .slice none 0 0, .slice none 0 0, .slice none 0 0, .slice none 0 0, .slice none 0 0, .slice none 0 0, .int .i64 0, .int .i64 0, .slice none 0 0]
def rcells (l : List Int) : List Value := l.flatMap relC
theorem rcells_at : ∀ (l : List Int) (i : Nat) (x : Int), l[i]? = some x → (rcells l)[i * 15]? = some (.int .i64 x)
  | [], i, x, h => by simp at h
  | y :: l, 0, x, h => by
    simp at h; subst h
    unfold rcells
    rw [List.flatMap_cons]; rfl
  | y :: l, i + 1, x, h => by
    have ih := rcells_at l i x (by simpa using h)
    unfold rcells at ih ⊢
    rw [List.flatMap_cons, List.getElem?_append_right (by simp [relC]; omega)]
    have e : (i + 1) * 15 - (relC y).length = i * 15 := by simp [relC]; omega
    rw [e, ih]
theorem rcells_one (l : List Int) : ∀ u ∈ rcells l, u.oneCell' = true := fun u hu => by
  unfold rcells at hu
  rw [List.mem_flatMap] at hu
  obtain ⟨v, _, hv⟩ := hu
  simp [relC] at hv
  rcases hv with rfl | rfl | rfl | rfl | rfl | rfl | rfl | rfl | rfl | rfl | rfl | rfl | rfl | rfl | rfl <;> rfl
theorem rcells_append (l r : List Int) : rcells (l ++ r) = rcells l ++ rcells r := by simp [rcells]
/-- one relation in a block of its own, as the append's source -/
theorem Reads.rel {w : World} {g B : Nat} {T : TypeId} {x : Int} (k : Blk w g T (relC x).toArray) (hg : g < B) : Reads w B 15 (some ⟨g, 0, none⟩) 1 (rcells [x]) :=
  ⟨rfl, fun _ => ⟨_, rfl, hg, fun j u hj => by
    rw [addN, Nat.zero_add, k.cell j]
    have e : rcells [x] = relC x := by unfold rcells; simp
    rw [e] at hj
    rw [← hj]
    simp⟩⟩
theorem ROk.own {w : World} {base : Nat} {T : TypeId} {v : Value} {l : List Int} {P : Nat → Prop} (h : w.ownsRow base T 15 v l.length (rcells l)) (hb : ∀ g, v.ownBlock = some g → P g) :
    ∃ (A : Option Addr) (c : Nat), v = .slice A l.length c ∧ ROk w P A l := by
  rcases h.2 with ⟨rfl, h0⟩ | ⟨g, cap, cur, rfl, hbg, hh, hnc, hcm, hcs, htk⟩
  · exact ⟨none, 0, by rw [h0], fun h1 => absurd h1 (by omega)⟩
  · refine ⟨_, cap, rfl, fun _ => ⟨g, 0, rfl, hb g rfl, fun i x hx => ?_⟩⟩
    have hi : i < l.length := (List.getElem?_eq_some_iff.1 hx).1
    show w.cell? ⟨g, 0 + i * 15, none⟩ = _
    rw [Nat.zero_add, cell_of_row w g (i * 15) cur T (0, 0) hh, ← rcells_at l i x hx, ← htk, List.getElem?_take, if_pos (by omega)]
    simp
/-- the parameter's block, the result's, and that of what is built -/
def CInv (e : E) (A R : Option Addr) (c d : Nat) (w wr : World) (v vr : Value) : Prop :=
  Below w.heap.size w wr ∧
  Blk wr w.heap.size 30 #[.int .i64 e.op, .int .i64 e.n, .int .i64 e.m, .int .i64 e.kind, .int .i64 e.lit.k, .int .i64 e.lit.n, .string e.lit.s, .slice A e.args.length c, .slice R e.rels.length d] ∧
  Blk wr (w.heap.size + 1) 30 #[.int .i64 0, .int .i64 0, .int .i64 0, .int .i64 0, .int .i64 0, .int .i64 0, .string ⟨#[]⟩, .slice none 0 0, .slice none 0 0] ∧
  Blk wr (w.heap.size + 1 + 1) 30 #[.int .i64 e.op, .int .i64 e.n, .int .i64 e.m, .int .i64 e.kind, .int .i64 e.lit.k, .int .i64 e.lit.n, .string e.lit.cutT.s, v, vr]
theorem cutT_small (v : V) (h : v.s.size ≤ 202) : v.cutT.s = v.s := by
  unfold V.cutT
  rw [Nat.min_eq_left h]
  simp
theorem cutT_big (v : V) (h : ¬ v.s.size ≤ 202) : v.cutT.s = v.s.extract 0 202 := by
  unfold V.cutT
  rw [Nat.min_eq_right (by omega)]
theorem CInv.start (e : E) (A R : Option Addr) (c d : Nat) (w : World) (u : ByteArray) (h : e.lit.cutT.s = u) : Hid (CInv e A R c d w (((w.alloc (.cells #[.int .i64 e.op, .int .i64 e.n, .int .i64 e.m, .int .i64 e.kind, .int .i64 e.lit.k, .int .i64 e.lit.n, .string e.lit.s, .slice A e.args.length c, .slice R e.rels.length d] 30)).alloc (.cells #[.int .i64 0, .int .i64 0, .int .i64 0, .int .i64 0, .int .i64 0, .int .i64 0, .string ⟨#[]⟩, .slice none 0 0, .slice none 0 0] 30)).alloc (.cells #[.int .i64 e.op, .int .i64 e.n, .int .i64 e.m, .int .i64 e.kind, .int .i64 e.lit.k, .int .i64 e.lit.n, .string u, .slice A e.args.length c, .slice R e.rels.length d] 30)) (.slice A e.args.length c) (.slice R e.rels.length d)) := by
  subst h
  exact ⟨al (al (al (Below.refl _ _) _) _) _, ((Blk.new w 30 _).alloc _).alloc _, (Blk.new' (by simp)).alloc _, Blk.new' (by simp)⟩
theorem CInv.set7 {e : E} {A R : Option Addr} {c d : Nat} {w wr : World} {v vr : Value} (h : CInv e A R c d w wr v vr) (u : Value) : CInv e A R c d w (wr.setCell ⟨w.heap.size + 1 + 1, 7, none⟩ u) u vr :=
  ⟨h.1.setCell (p := ⟨w.heap.size + 1 + 1, 7, none⟩) (by simp <;> omega) u, h.2.1.far (by simp <;> omega) u, h.2.2.1.far (by simp) u, h.2.2.2.set_ 7 u⟩
theorem CInv.set8 {e : E} {A R : Option Addr} {c d : Nat} {w wr : World} {v vr : Value} (h : CInv e A R c d w wr v vr) {u : Value} : CInv e A R c d w (wr.setCell ⟨w.heap.size + 1 + 1, 8, none⟩ u) v u :=
  ⟨h.1.setCell (p := ⟨w.heap.size + 1 + 1, 8, none⟩) (by simp <;> omega) u, h.2.1.far (by simp <;> omega) u, h.2.2.1.far (by simp) u, h.2.2.2.set_ 8 u⟩
/-- the arguments that are built -/
def CArgs (base : Nat) (wr : World) (v : Value) (hs : List HE) : Prop :=
  wr.ownsRow base 30 9 v hs.length (hcells hs) ∧ ∀ x ∈ hs, x.ok wr (Nw base v wr.heap.size)
theorem cutE_rels (n : Nat) (e : E) : (cutE (n + 1) e).1.rels = e.rels.take 2 := by cases e; rw [cutE]; rfl
theorem cutE_val (n : Nat) (e : E) (A R : Option Addr) (c d : Nat) : (cutE (n + 1) e).1.val A c R d = .agg #[.int .i64 e.op, .int .i64 e.n, .int .i64 e.m, .int .i64 e.kind, .int .i64 e.lit.k, .int .i64 e.lit.n, .string e.lit.cutT.s, .slice A (cutE (n + 1) e).1.args.length c, .slice R (cutE (n + 1) e).1.rels.length d] := by cases e; rw [cutE]; rfl
/-- what was built, held -/
theorem cut_done {n : Nat} {e : E} {w wc wx : World} {v vr : Value} {hs : List HE} (hsz : w.heap.size + 1 + 1 + 1 ≤ wc.heap.size) (hm : hs.map HE.e = (cutE (n + 1) e).1.args) (ha : CArgs (w.heap.size + 1 + 1 + 1) wc v hs) (hg : wc.grownBy wx (some (w.heap.size + 1 + 1)))
    (hr : wx.ownsRow wc.heap.size 133 15 vr (e.rels.take 2).length (rcells (e.rels.take 2))) :
    ∃ h : HE, h.e = (cutE (n + 1) e).1 ∧ .agg #[.int .i64 e.op, .int .i64 e.n, .int .i64 e.m, .int .i64 e.kind, .int .i64 e.lit.k, .int .i64 e.lit.n, .string e.lit.cutT.s, v, vr] = h.val ∧ h.ok wx (fun b => w.heap.size + 1 + 1 + 1 ≤ b ∧ b < wx.heap.size) := by
  have hs1 := hg.size
  have key : ∀ b, w.heap.size + 1 + 1 + 1 ≤ b → b < wc.heap.size → wx.heap[b]? = wc.heap[b]? := fun b h1 h2 => hg.block b h2 (by intro e1; injection e1 with e1; omega)
  have ho := ha.1.kept hg (by
    cases hv : v.ownBlock with
    | none => exact .inl rfl
    | some b =>
      refine .inr fun e1 => ?_
      injection e1 with e1
      have := (ha.1.lt b hv).1
      omega)
  obtain ⟨A2, c2, rfl, hA⟩ := LOk.own (P := fun b => w.heap.size + 1 + 1 + 1 ≤ b ∧ b < wx.heap.size) ho (fun x hx => (ha.2 x hx).kept (fun b hb => key b hb.1 hb.2.1) fun b hb => ⟨hb.1, Nat.lt_of_lt_of_le hb.2.1 hs1⟩) fun g h1 => ho.lt g h1
  obtain ⟨R2, d2, rfl, hR⟩ := ROk.own (P := fun b => w.heap.size + 1 + 1 + 1 ≤ b ∧ b < wx.heap.size) hr fun g h1 => ⟨Nat.le_trans hsz (hr.lt g h1).1, (hr.lt g h1).2⟩
  refine ⟨⟨(cutE (n + 1) e).1, A2, c2, R2, d2⟩, rfl, ?_, ?_, ?_⟩
  · show _ = (cutE (n + 1) e).1.val A2 c2 R2 d2
    rw [cutE_val, cutE_rels, ← hm, List.length_map]
  · show LOk _ _ _ (cutE (n + 1) e).1.args
    rw [← hm]; exact hA
  · show ROk _ _ _ (cutE (n + 1) e).1.rels
    rw [cutE_rels]; exact hR
theorem CArgs.snoc {base g2 : Nat} {wr w2 w4 : World} {v v' : Value} {hs : List HE} {h : HE} {o1 o2 : Obj} (k : CArgs base wr v hs) (hb : Below wr.heap.size wr w2) (hbase : base ≤ wr.heap.size) (hok : h.ok w2 (fun b => wr.heap.size ≤ b ∧ b < w2.heap.size))
    (ho : w4.ownsRow base 30 9 v' (hs.length + 1) (hcells hs ++ hcells [h])) (hg : ((w2.alloc o1).alloc o2).grownBy w4 v.ownBlock) (hv : v'.ownBlock = v.ownBlock ∨ v'.ownBlock = some ((w2.alloc o1).alloc o2).heap.size) (hg2 : g2 < base) (u : Value) :
    CArgs base (w4.setCell ⟨g2, 7, none⟩ u) v' (hs ++ [h]) := by
  have hs3 : ((w2.alloc o1).alloc o2).heap.size = w2.heap.size + 1 + 1 := by simp
  have hs4 := hg.size
  have hs2 := hb.size
  have hset : ∀ b, b ≠ g2 → (w4.setCell ⟨g2, 7, none⟩ u).heap[b]? = w4.heap[b]? := fun b hb => Below.heap_setCell w4 ⟨g2, 7, none⟩ u b hb
  have hal : ∀ b, b < w2.heap.size → ((w2.alloc o1).alloc o2).heap[b]? = w2.heap[b]? := fun b hb => (Below.heap_alloc (w2.alloc o1) o2 b (by simp; omega)).trans (Below.heap_alloc w2 o1 b hb)
  have hvb : ∀ g, v.ownBlock = some g → base ≤ g ∧ g < wr.heap.size := fun g hg => k.1.lt g hg
  refine ⟨?_, fun x hx => ?_⟩
  · rw [hcells_append, List.length_append]
    refine ho.kept (row := some g2) ⟨rfl, rfl, rfl, by simp [World.setCell], fun b _ hk => hset b (fun e => hk (by rw [e]))⟩ ?_
    cases hv' : v'.ownBlock with
    | none => exact .inl rfl
    | some b =>
      refine .inr fun e => ?_
      injection e with e
      have := (ho.lt b hv').1
      omega
  · have hsz : (w4.setCell ⟨g2, 7, none⟩ u).heap.size = w4.heap.size := by simp
    rcases List.mem_append.1 hx with hx | hx
    · refine (k.2 x hx).kept (fun b hb2 => ?_) fun b hb2 => ?_
      · obtain ⟨h1, h2, h3⟩ := hb2
        rw [hset b (by omega), hg.block b (by omega) h3, hal b (by omega)]
        exact hb.block b h2
      · obtain ⟨h1, h2, h3⟩ := hb2
        refine ⟨h1, by rw [hsz]; omega, ?_⟩
        rcases hv with e | e
        · rw [e]; exact h3
        · rw [e]
          intro e2
          injection e2 with e2
          omega
    · rw [List.mem_singleton] at hx
      subst hx
      refine hok.kept (fun b hb2 => ?_) fun b hb2 => ?_
      · have hne : some b ≠ v.ownBlock := fun e => by
          have := (hvb b e.symm).2
          omega
        rw [hset b (by omega), hg.block b (by omega) hne, hal b (by omega)]
      · refine ⟨by omega, by rw [hsz]; omega, ?_⟩
        rcases hv with e | e
        · rw [e]; intro e2; have := (hvb b e2.symm).2; omega
        · rw [e]
          intro e2
          injection e2 with e2
          omega
set_option maxHeartbeats 4000000 in
set_option maxRecDepth 100000 in
theorem CutE_any : ∀ (left : Nat) (e : E) (A R : Option Addr) (c d : Nat) (w : World), 0 < left → left ≤ 1000 → EIn e → LOk w (Lo w.heap.size) A e.args → ROk w (Lo w.heap.size) R e.rels →
    Calls Tryz.prog 45 #[e.val A c R d, .int .i64 left] w fun x w' => ∃ h : HE, h.e = (cutE left e).1 ∧ x = .returned (.tuple #[h.val, .int .i64 ((cutE left e).2 : Nat)]) ∧ Below w.heap.size w w' ∧ h.ok w' (fun b => w.heap.size ≤ b ∧ b < w'.heap.size) := by
  intro left
  induction left using Nat.strongRecOn with
  | _ left ih =>
    intro e A R c d w h0 hl hI hA hR
    obtain ⟨n, rfl⟩ : ∃ n, left = n + 1 := ⟨left - 1, by omega⟩
    have IH := Lib.hid ih
    have HA := Lib.hid (And.intro hI (And.intro hA hR))
    clear ih hI hA hR h0
    unfold E.val
    go_enter Tryz.func45, Tryz.ntmps45
    go_upto_region 2 with fail
    go_cut [20] (fun s wx => s = .string e.lit.cutT.s ∧ Hid (CInv e A R c d w wx (.slice A e.args.length c) (.slice R e.rels.length d)))
    case first =>
      by_cases hz : e.lit.s.size ≤ 202
      · go_wp2_with fail
        go_meet
        exact ⟨by rw [cutT_small e.lit hz], CInv.start _ _ _ _ _ _ _ (cutT_small e.lit hz)⟩
      · go_wp2_with fail
        go_meet
        exact ⟨by rw [cutT_big e.lit hz], CInv.start _ _ _ _ _ _ _ (cutT_big e.lit hz)⟩
    case rest =>
      obtain ⟨rfl, HC⟩ := hcut
      have hB2 := HC.out.2.2.2
      have f7 := hB2.frozen 7
      have f8 := hB2.frozen 8
      have c7 := hB2.cell 7
      have c8 := hB2.cell 8
      simp only [List.getElem?_toArray, List.getElem?_cons_succ, List.getElem?_cons_zero] at c7 c8
      clear hB2
      go_upto_block 0 with fail
      have HC1 : Hid (CInv e A R c d w ((wc.setCell ⟨w.heap.size + 1 + 1, 7, none⟩ (.slice none 0 0)).setCell ⟨w.heap.size + 1 + 1, 8, none⟩ (.slice none 0 0)) (.slice none 0 0) (.slice none 0 0)) := Lib.hid (HC.out.set7 _).set8
      clear HC f7 f8 c7 c8
      go_cut [1] (fun lv wx => ∃ (v : Value) (hs : List HE), lv = .int .i64 ((cutE (n + 1) e).2 : Nat) ∧ Hid (CInv e A R c d w wx v (.slice none 0 0)) ∧ Hid (hs.map HE.e = (cutE (n + 1) e).1.args ∧ CArgs (w.heap.size + 1 + 1 + 1) wx v hs))
      case first =>
        go_wp2_with fail
        go_loopw [1, 7] (fun lv iv wr => ∃ (j : Nat) (v : Value) (hs : List HE), j ≤ e.args.length ∧ iv = .int .i64 j ∧ lv = .int .i64 ((cutEL n (e.args.take j)).2 : Nat) ∧ Hid (CInv e A R c d w wr v (.slice none 0 0)) ∧ Hid (hs.map HE.e = (cutEL n (e.args.take j)).1 ∧ hs.length = j ∧ CArgs (w.heap.size + 1 + 1 + 1) wr v hs)) (fun _ iv _ => e.args.length - (intOf iv).toNat)
        case atStart => exact ⟨0, .slice none 0 0, [], Nat.zero_le _, rfl, by simp [cutEL], HC1, ⟨by simp [cutEL], rfl, ⟨rfl, .inl ⟨rfl, rfl⟩⟩, fun x hx => by cases hx⟩⟩
        case round =>
          obtain ⟨j, v, hs, hj, rfl, rfl, HC, HH⟩ := hrel
          have hW := HC.out.1
          have hB := HC.out.2.1
          have hR := HC.out.2.2.2
          have y7 : wr.cell? ⟨w.heap.size, 7, none⟩ = some (.slice A e.args.length c) := hB.cell 7
          by_cases hlt : j < e.args.length
          · have hlti : (j : Int) < (e.args.length : Int) := by omega
            have hqle := cutEL_left n (e.args.take j)
            have HT := Lib.hid (List.take_succ_eq_append_getElem hlt)
            by_cases hq : 0 < (cutEL n (e.args.take j)).2
            · have HS := Lib.hid (cutEL_snoc (e.args.take j) n e.args[j] hq)
              have hjn : hs.length ≤ n := by
                have h1 := cutEL_count n (e.args.take j)
                have h2 := nodesL_len (cutEL n (e.args.take j)).1
                rw [← HH.out.1, List.length_map] at h2
                rw [← HH.out.1] at h1
                omega
              have hjb : j ≤ 1000 := by have := HH.out.2.1; omega
              obtain ⟨q, hqe⟩ : ∃ q, q = (cutEL n (e.args.take j)).2 := ⟨_, rfl⟩
              rw [← hqe] at HS hq hqle ⊢
              have HQ := Lib.hid hqe
              clear hqe
              have hqi : (0 : Int) < (q : Int) := by omega
              obtain ⟨b, o, rfl, hb, he⟩ := (HA.out.2.1.below hW hW.size).at_ hlt
              obtain ⟨z0, z1, z2, z3, z4, z5, z6, ⟨A', c', z7, z8⟩, R', d', z9, z10⟩ := EOk.mk_.1 he
              have x0 : wr.cell? ⟨b, o + j * 9, none⟩ = some (.int .i64 e.args[j].op) := z0
              have x1 : wr.cell? ⟨b, o + j * 9 + 1, none⟩ = some (.int .i64 e.args[j].n) := z1
              have x2 : wr.cell? ⟨b, o + j * 9 + 2, none⟩ = some (.int .i64 e.args[j].m) := z2
              have x3 : wr.cell? ⟨b, o + j * 9 + 3, none⟩ = some (.int .i64 e.args[j].kind) := z3
              have x4 : wr.cell? ⟨b, o + j * 9 + 4, none⟩ = some (.int .i64 e.args[j].lit.k) := z4
              have x5 : wr.cell? ⟨b, o + j * 9 + 5, none⟩ = some (.int .i64 e.args[j].lit.n) := z5
              have x6 : wr.cell? ⟨b, o + j * 9 + 6, none⟩ = some (.string e.args[j].lit.s) := z6
              have x7 : wr.cell? ⟨b, o + j * 9 + 7, none⟩ = some ((.slice A' e.args[j].args.length c')) := z7
              have x8 : wr.cell? ⟨b, o + j * 9 + 8, none⟩ = some ((.slice R' e.args[j].rels.length d')) := z9
              have HI := HA.out.1
              have hIj : EIn e.args[j] := LIn.mem (EIn.args HI) _ (List.getElem_mem hlt)
              have HK := Lib.hid (IH.out q (by omega) e.args[j] A' R' c' d' wr hq (by omega) hIj z8 z10)
              clear z0 z1 z2 z3 z4 z5 z6 z7 z9 he z8 z10 HI hIj
              unfold E.val at HK
              generalize e.args[j] = ej at *
              go_wp2_with fail
              refine HK.out.mono ?_
              rintro x w2 ⟨h, he, rfl, hb2, hok⟩
              have hB2 := hR.below hb2 hR.lt
              have hR2 := hR.lt
              have hs2 := hb2.size
              have hBl : w.heap.size + 1 + 1 < w2.heap.size := by omega
              have r7 : w2.cell? ⟨w.heap.size + 1 + 1, 7, none⟩ = some v := hB2.cell 7
              have HH2 := Lib.hid (And.intro hb2 (And.intro hok (And.intro hB2 he)))
              unfold HE.val E.val
              obtain ⟨i0, hi, hz0, hz1, hz2⟩ := info_parts infoE
              clear hb2 hok hB2 he y7 x0 x1 x2 x3 x4 x5 x6 x7 x8 hB hR HK
              go_wp2_with (at_builtin; refine wpList_append_any _ rfl (.tmp 49) (.tmp 51) 22 rfl (w.heap.size + 1 + 1 + 1) 30 i0 (.agg #[.int .i64 0, .int .i64 0, .int .i64 0, .int .i64 0, .int .i64 0, .int .i64 0, .string ⟨#[]⟩, .slice none 0 0, .slice none 0 0]) 9 112 Tryz.underlying22 hi hz0 hz1 hz2 rfl (by decide) _ _ _ rfl (((own_below HH.out.2.2.1 HH2.out.1).alloc _).alloc _) (w2.heap.size + 1 + 1) _ 1 1 (hcells [h]) rfl ?c0 ?c1 ?c2 ?c3 ?c4 ?_)
              case c0 => exact Reads.he (Blk.new' (g := w2.heap.size + 1) (by simp)) (Nat.lt_succ_self _)
              case c1 => exact hcells_one _
              case c2 => have := HH.out.2.1; unfold maxLen; omega
              case c3 => have := HH.out.2.1; omega
              case c4 => simp <;> omega
              intro v' w4 hown4 hgrow hvb
              have hB4 : Blk w4 (w.heap.size + 1 + 1) 30 #[.int .i64 e.op, .int .i64 e.n, .int .i64 e.m, .int .i64 e.kind, .int .i64 e.lit.k, .int .i64 e.lit.n, .string e.lit.cutT.s, v, .slice none 0 0] := ((HH2.out.2.2.1.alloc _).alloc _).grown hgrow (fun e1 => by have := (HH.out.2.2.1.lt _ e1.symm).1; omega)
              have s7 := hB4.cell 7
              have f7 := hB4.frozen 7
              simp only [List.getElem?_toArray, List.getElem?_cons_succ, List.getElem?_cons_zero] at s7
              have HN : Hid (CInv e (some ⟨b, o, none⟩) R c d w (w4.setCell ⟨w.heap.size + 1 + 1, 7, none⟩ v') v' (.slice none 0 0) ∧ CArgs (w.heap.size + 1 + 1 + 1) (w4.setCell ⟨w.heap.size + 1 + 1, 7, none⟩ v') v' (hs ++ [h])) := by
                have hbW : Below w.heap.size w w4 := (al (al (thn hW HH2.out.1) _) _).grown hgrow (by simp <;> omega) (fun g hg => by have := (HH.out.2.2.1.lt g hg).1; omega)
                refine ⟨CInv.set7 (v := v) ⟨hbW, ?_, ?_, hB4⟩ v', HH.out.2.2.snoc HH2.out.1 (by omega) HH2.out.2.1 hown4 hgrow (by simpa using hvb) (by omega) v'⟩
                · exact (((HC.out.2.1.below HH2.out.1 HC.out.2.1.lt).alloc _).alloc _).grown hgrow (fun e1 => by have := (HH.out.2.2.1.lt _ e1.symm).1; omega)
                · exact (((HC.out.2.2.1.below HH2.out.1 HC.out.2.2.1.lt).alloc _).alloc _).grown hgrow (fun e1 => by have := (HH.out.2.2.1.lt _ e1.symm).1; omega)
              obtain ⟨A2, d2, rfl⟩ := own_slc hown4
              clear hown4 hgrow hvb hB4
              go_wp2_with fail
              refine ⟨?_, ?measure⟩
              (repeat apply Exists.intro)
              refine ⟨?rel, rfl⟩
              case rel => exact ⟨j + 1, _, hs ++ [h], by omega, by go_num, by rw [HT.out, HS.out], HN.out.1, by rw [HT.out, HS.out, List.map_append, HH.out.1, List.map_singleton, HH2.out.2.2.2], by rw [List.length_append, HH.out.2.1]; rfl, HN.out.2⟩
              case measure => simp [intOf]; omega
            · have hq0 : (cutEL n (e.args.take j)).2 = 0 := by omega
              have HQ : Hid (cutEL n e.args = cutEL n (e.args.take j)) := Lib.hid (by
                have := cutEL_stop (e.args.take j) (e.args.drop j) n hq0
                rw [List.take_append_drop] at this
                exact this)
              rw [hq0]
              go_wp2_with fail
              go_meet
              exact ⟨v, hs, by rw [cutE_two, HQ.out, hq0], HC, by rw [cutE_args, HQ.out]; exact HH.out.1, HH.out.2.2⟩
          · have HQ : Hid (cutEL n e.args = cutEL n (e.args.take j)) := Lib.hid (by rw [List.take_of_length_le (by omega)])
            have hlf : decide ((j : Int) < (e.args.length : Int)) = false := decide_eq_false (by omega)
            go_wp2_with fail
            go_meet
            exact ⟨v, hs, by rw [cutE_two, HQ.out], HC, by rw [cutE_args, HQ.out]; exact HH.out.1, HH.out.2.2⟩
      case rest =>
        obtain ⟨v, hs, rfl, HC0, HH⟩ := hcut
        have HH2 : Hid (w.heap.size + 1 + 1 + 1 ≤ wc.heap.size) := Lib.hid HC0.out.2.2.2.lt
        go_wp2_with fail
        go_loopw [10] (fun iv wr => ∃ (k : Nat) (vr : Value), k ≤ e.rels.length ∧ k ≤ 2 ∧ iv = .int .i64 k ∧ Hid (CInv e A R c d w wr v vr) ∧ Hid (wr.ownsRow wc.heap.size 133 15 vr k (rcells (e.rels.take k)) ∧ wc.grownBy wr (some (w.heap.size + 1 + 1)))) (fun iv _ => e.rels.length - (intOf iv).toNat)
        case atStart => exact ⟨0, .slice none 0 0, Nat.zero_le _, Nat.zero_le _, rfl, HC0, ⟨rfl, .inl ⟨rfl, rfl⟩⟩, World.grownBy.refl _ _⟩
        case round =>
          obtain ⟨k, vr, hk, hk2, rfl, HC, HR⟩ := hrel
          have hB := HC.out.2.1
          have hQ := HC.out.2.2.2
          have y8 : wr.cell? ⟨w.heap.size, 8, none⟩ = some (.slice R e.rels.length d) := hB.cell 8
          have q8 : wr.cell? ⟨w.heap.size + 1 + 1, 8, none⟩ = some vr := hQ.cell 8
          by_cases hlt : k < e.rels.length
          · have hlti : (k : Int) < (e.rels.length : Int) := by omega
            by_cases h2 : k < 2
            · have h2i : (k : Int) < 2 := by omega
              have HT := Lib.hid (List.take_succ_eq_append_getElem hlt)
              obtain ⟨b, o, rfl, hbl, hcell⟩ := HA.out.2.2.below HC.out.1 HC.out.1.size (by omega)
              have HZ := Lib.hid (And.intro hbl (hcell k _ (List.getElem?_eq_getElem hlt)))
              have HX := Lib.hid (And.intro y8 hB)
              have HY := Lib.hid (And.intro True.intro (And.intro q8 hQ))
              clear hbl hcell hB hQ
              go_upto_region 14 with fail
              refine wp_region_grow (W := wr) 10 [[], [0], [], [2], [], [3, 4], [5], [6], [7], [8]] [] (fun i u w' => match i with | 0 => u = .pointer (some ⟨w.heap.size + 1 + 1, 8, none⟩) | 1 => u = vr | 2 => u = .pointer (some ⟨w.heap.size, 8, none⟩) | 3 => u = .slice (some ⟨b, o, none⟩) e.rels.length d | 4 => u = .int .i64 (k : Nat) | 5 => u = .pointer (some ⟨b, o + k * 15, none⟩) | 6 => u = .pointer (some ⟨b, o + k * 15, none⟩) | 7 => u = .int .i64 e.rels[k] | 8 => u = .agg (relC e.rels[k]).toArray | _ => ∃ g, (u = .slice (some ⟨g, 0, none⟩) 1 1 ∧ wr.heap.size ≤ g) ∧ Blk w' g 133 (relC e.rels[k]).toArray) (by kernel_rfl) (by kernel_rfl) ?hD ⟨?o0, ?o1, ?o2, ?o3, ?o4, ?o5, ?o6, ?o7, ?o8, ?o9, trivial⟩ ?fin
              case hD =>
                intro i u w1 w2 hb hd
                split at hd <;> first | exact hd | exact hd.imp fun g hg => ⟨hg.1, hg.2.below hb hg.2.lt⟩
              case o0 =>
                refine growOne_of (pre := []) rfl ?_
                simp only [fillL, Act.put]
                intro f w' hb hp
                clear hp
                clear hb
                go_wp2_with fail
                exact ⟨Below.refl _ _, rfl, fun h => by simp at h⟩
              case o1 =>
                refine growOne_of (pre := [0]) rfl ?_
                simp only [fillL, Region.dstOf, List.getElem?_toArray, List.getElem?_cons_zero, Option.bind_some, Act.put]
                intro f w' hb hp
                have h0 : f 0 = .pointer (some ⟨w.heap.size + 1 + 1, 8, none⟩) := hp 0 (by decide)
                have k0 := (hb.cell (p := ⟨w.heap.size + 1 + 1, 8, none⟩) HY.out.2.2.lt).trans HY.out.2.1
                clear hp
                rw [h0]
                clear h0
                clear hb
                go_wp2_with fail
                exact ⟨Below.refl _ _, rfl, fun h => by simp at h⟩
              case o2 =>
                refine growOne_of (pre := []) rfl ?_
                simp only [fillL, Act.put]
                intro f w' hb hp
                clear hp
                clear hb
                go_wp2_with fail
                exact ⟨Below.refl _ _, rfl, fun h => by simp at h⟩
              case o3 =>
                refine growOne_of (pre := [2]) rfl ?_
                simp only [fillL, Region.dstOf, List.getElem?_toArray, List.getElem?_cons_zero, List.getElem?_cons_succ, Option.bind_some, Act.put]
                intro f w' hb hp
                have h2 : f 2 = .pointer (some ⟨w.heap.size, 8, none⟩) := hp 2 (by decide)
                have k0 := (hb.cell (p := ⟨w.heap.size, 8, none⟩) HX.out.2.lt).trans HX.out.1
                clear hp
                rw [h2]
                clear h2
                clear hb
                go_wp2_with fail
                exact ⟨Below.refl _ _, rfl, fun h => by simp at h⟩
              case o4 =>
                refine growOne_of (pre := []) rfl ?_
                simp only [fillL, Act.put]
                intro f w' hb hp
                clear hp
                clear hb
                go_wp2_with fail
                exact ⟨Below.refl _ _, rfl, fun h => by simp at h⟩
              case o5 =>
                refine growOne_of (pre := [3, 4]) rfl ?_
                simp only [fillL, Region.dstOf, List.getElem?_toArray, List.getElem?_cons_zero, List.getElem?_cons_succ, Option.bind_some, Act.put]
                intro f w' hb hp
                have h3 : f 3 = .slice (some ⟨b, o, none⟩) e.rels.length d := hp 3 (by decide)
                have h4 : f 4 = .int .i64 (k : Nat) := hp 4 (by decide)
                clear hp
                rw [h3, h4]
                clear h3 h4
                clear hb
                go_wp2_with fail
                exact ⟨Below.refl _ _, rfl, fun h => by simp at h⟩
              case o6 =>
                refine growOne_of (pre := [5]) rfl ?_
                simp only [fillL, Region.dstOf, List.getElem?_toArray, List.getElem?_cons_zero, List.getElem?_cons_succ, Option.bind_some, Act.put]
                intro f w' hb hp
                have h5 : f 5 = .pointer (some ⟨b, o + k * 15, none⟩) := hp 5 (by decide)
                clear hp
                rw [h5]
                clear h5
                clear hb
                go_wp2_with fail
                exact ⟨Below.refl _ _, rfl, fun h => by simp at h⟩
              case o7 =>
                refine growOne_of (pre := [6]) rfl ?_
                simp only [fillL, Region.dstOf, List.getElem?_toArray, List.getElem?_cons_zero, List.getElem?_cons_succ, Option.bind_some, Act.put]
                intro f w' hb hp
                have h6 : f 6 = .pointer (some ⟨b, o + k * 15, none⟩) := hp 6 (by decide)
                have k0 := (hb.cell (p := ⟨b, o + k * 15, none⟩) HZ.out.1).trans HZ.out.2
                clear hp
                rw [h6]
                clear h6
                clear hb
                go_wp2_with fail
                exact ⟨Below.refl _ _, rfl, fun h => by simp at h⟩
              case o8 =>
                refine growOne_of (pre := [7]) rfl ?_
                simp only [fillL, Region.dstOf, List.getElem?_toArray, List.getElem?_cons_zero, List.getElem?_cons_succ, Option.bind_some, Act.put]
                intro f w' hb hp
                have h7 : f 7 = .int .i64 e.rels[k] := hp 7 (by decide)
                clear hp
                rw [h7]
                clear h7
                clear hb
                unfold relC
                go_wp2_with fail
                exact ⟨Below.refl _ _, rfl, fun h => by simp at h⟩
              case o9 =>
                refine growOne_of (pre := [8]) rfl ?_
                simp only [fillL, Region.dstOf, List.getElem?_toArray, List.getElem?_cons_zero, List.getElem?_cons_succ, Option.bind_some, Act.put]
                intro f w' hb hp
                have h8 : f 8 = .agg (relC e.rels[k]).toArray := hp 8 (by decide)
                clear hp
                rw [h8]
                clear h8
                have hbs := hb.size
                unfold relC
                go_wp2_with fail
                exact ⟨al (Below.refl _ _) _, ⟨w'.heap.size, ⟨rfl, hbs⟩, Blk.new _ _ _⟩, fun h => by simp at h⟩
              case fin =>
                intro f w' hb hd _
                have e0 : f 0 = .pointer (some ⟨w.heap.size + 1 + 1, 8, none⟩) := hd 0 (by decide)
                have e1 : f 1 = vr := hd 1 (by decide)
                have e2 : f 2 = .pointer (some ⟨w.heap.size, 8, none⟩) := hd 2 (by decide)
                have e3 : f 3 = .slice (some ⟨b, o, none⟩) e.rels.length d := hd 3 (by decide)
                have e4 : f 4 = .int .i64 (k : Nat) := hd 4 (by decide)
                have e5 : f 5 = .pointer (some ⟨b, o + k * 15, none⟩) := hd 5 (by decide)
                have e6 : f 6 = .pointer (some ⟨b, o + k * 15, none⟩) := hd 6 (by decide)
                have e7 : f 7 = .int .i64 e.rels[k] := hd 7 (by decide)
                have e8 : f 8 = .agg (relC e.rels[k]).toArray := hd 8 (by decide)
                obtain ⟨g, ⟨e9, hg0⟩, hg9⟩ := hd 9 (by decide)
                clear hd
                rw [show List.range 10 = [0, 1, 2, 3, 4, 5, 6, 7, 8, 9] from rfl]
                simp only [fillL, Region.dstOf, List.getElem?_toArray, List.getElem?_cons_zero, List.getElem?_cons_succ, Option.bind_some, Act.put]
                rw [e0, e1, e2, e3, e4, e5, e6, e7, e8, e9]
                clear e0 e1 e2 e3 e4 e5 e6 e7 e8 e9
                go_frame
                obtain ⟨i0, hi, hz0, hz1, hz2⟩ := info_parts infoRl
                have hkb : k ≤ 1000 := by omega
                have hRd : Reads w' w'.heap.size 15 (some ⟨g, 0, none⟩) 1 (rcells [e.rels[k]]) := Reads.rel hg9 hg9.lt
                have hbs := hb.size
                have hcs := HR.out.2.size
                have hwb := HH2.out
                have hOw := own_below HR.out.1 hb
                have hBc := HC.out.2.2.2.below hb HC.out.2.2.2.lt
                refine wpList_append_any _ rfl (.tmp 67) (.tmp 75) 28 rfl wc.heap.size 133 i0 (.agg #[.int .i64 0, .string ⟨#[]⟩, .int .i64 0, .int .i64 0, .bool false, .slice none 0 0, .slice none 0 0, .slice none 0 0, .slice none 0 0, .slice none 0 0, .slice none 0 0, .slice none 0 0, .int .i64 0, .int .i64 0, .slice none 0 0]) 15 256 Tryz.underlying28 hi hz0 hz1 hz2 rfl (by decide) vr k (rcells (e.rels.take k)) rfl hOw w'.heap.size (some ⟨g, 0, none⟩) 1 1 (rcells [e.rels[k]]) rfl hRd (rcells_one _) ?c2 ?c3 ?c4 ?_
                case c2 => unfold maxLen; omega
                case c3 => omega
                case c4 => omega
                intro v' w4 hown4 hgrow hvb
                have hnb : ∀ b, b < wc.heap.size → some b ≠ vr.ownBlock := fun b hb e1 => by have := (HR.out.1.lt b e1.symm).1; omega
                have hB4 := hBc.grown hgrow (hnb _ (by omega))
                have s8 := hB4.cell 8
                have f8 := hB4.frozen 8
                simp only [List.getElem?_toArray, List.getElem?_cons_succ, List.getElem?_cons_zero] at s8
                have HN : Hid (CInv e A (some ⟨b, o, none⟩) c d w (w4.setCell ⟨w.heap.size + 1 + 1, 8, none⟩ v') v v' ∧ (w4.setCell ⟨w.heap.size + 1 + 1, 8, none⟩ v').ownsRow wc.heap.size 133 15 v' (k + 1) (rcells (e.rels.take (k + 1))) ∧ wc.grownBy (w4.setCell ⟨w.heap.size + 1 + 1, 8, none⟩ v') (some (w.heap.size + 1 + 1))) := by
                  have hbW : Below w.heap.size w w4 := (thn (thn HC.out.1 hb) (Below.refl _ _)).grown hgrow (by omega) (fun g hg => by have := (HR.out.1.lt g hg).1; omega)
                  refine ⟨CInv.set8 (vr := vr) ⟨hbW, ?_, ?_, hB4⟩, ?_, ?_⟩
                  · exact (HC.out.2.1.below hb HC.out.2.1.lt).grown hgrow (hnb _ (by omega))
                  · exact (HC.out.2.2.1.below hb HC.out.2.2.1.lt).grown hgrow (hnb _ (by omega))
                  · rw [HT.out, rcells_append]
                    refine hown4.kept (row := some (w.heap.size + 1 + 1)) (grown_set _ _ _ _) ?_
                    cases hv' : v'.ownBlock with
                    | none => exact .inl rfl
                    | some b =>
                      refine .inr fun e1 => ?_
                      injection e1 with e1
                      have := (hown4.lt b hv').1
                      omega
                  · refine ((HR.out.2.andThen (row' := none) ⟨hb.os, hb.tape, hb.output, hb.size, fun i hi _ => hb.block i hi⟩ (fun j h => by cases h)).andThen hgrow (fun j h => .inl (HR.out.1.lt j h).1)).andThen (grown_set _ _ _ _) fun j h => .inr h
                obtain ⟨A2, d2, rfl⟩ := own_slc hown4
                clear hown4 hgrow hvb hB4 hnb hRd hOw hBc
                go_frame
                go_wp2_with fail
                exact ⟨⟨k + 1, _, by omega, by omega, by go_num, HN.out.1, HN.out.2⟩, by simp [intOf]; omega⟩
            · have hk3 : k = 2 := by omega
              subst hk3
              have HRow : wr.ownsRow wc.heap.size 133 15 vr (e.rels.take 2).length (rcells (e.rels.take 2)) := by
                rw [List.length_take, Nat.min_eq_left hk]; exact HR.out.1
              have HD := Lib.hid (cut_done HH2.out HH.out.1 HH.out.2 HR.out.2 HRow)
              obtain ⟨A2, c2, rfl⟩ := own_slc HH.out.2.1
              obtain ⟨R2, d2, rfl⟩ := own_slc HR.out.1
              have hZ := HC.out.2.2.1
              have HZ := Lib.hid (And.intro HC.out.1 hZ)
              have q0 := hQ.cell 0
              have q1 := hQ.cell 1
              have q2 := hQ.cell 2
              have q3 := hQ.cell 3
              have q4 := hQ.cell 4
              have q5 := hQ.cell 5
              have q6 := hQ.cell 6
              have q7 := hQ.cell 7
              simp only [List.getElem?_toArray, List.getElem?_cons_succ, List.getElem?_cons_zero] at q0 q1 q2 q3 q4 q5 q6 q7
              have g0 := hZ.frozen 0
              have g1 := hZ.frozen 1
              have g2 := hZ.frozen 2
              have g3 := hZ.frozen 3
              have g4 := hZ.frozen 4
              have g5 := hZ.frozen 5
              have g6 := hZ.frozen 6
              have g7 := hZ.frozen 7
              have g8 := hZ.frozen 8
              have z0 := hZ.cell 0
              have z1 := hZ.cell 1
              have z2 := hZ.cell 2
              have z3 := hZ.cell 3
              have z4 := hZ.cell 4
              have z5 := hZ.cell 5
              have z6 := hZ.cell 6
              have z7 := hZ.cell 7
              have z8 := hZ.cell 8
              simp only [List.getElem?_toArray, List.getElem?_cons_succ, List.getElem?_cons_zero] at z0 z1 z2 z3 z4 z5 z6 z7 z8
              clear hZ hB hQ HRow
              go_wp2_with fail
              have HB9 := HZ.out.2.set9_ (.int .i64 e.op) (.int .i64 e.n) (.int .i64 e.m) (.int .i64 e.kind) (.int .i64 e.lit.k) (.int .i64 e.lit.n) (.string e.lit.cutT.s) (.slice A2 hs.length c2) (.slice R2 2 d2)
              have k0 := HB9.cell 0
              have k1 := HB9.cell 1
              have k2 := HB9.cell 2
              have k3 := HB9.cell 3
              have k4 := HB9.cell 4
              have k5 := HB9.cell 5
              have k6 := HB9.cell 6
              have k7 := HB9.cell 7
              have k8 := HB9.cell 8
              simp only [List.getElem?_toArray, List.getElem?_cons_succ, List.getElem?_cons_zero] at k0 k1 k2 k3 k4 k5 k6 k7 k8
              obtain ⟨h, he, hv, hok⟩ := HD.out
              refine bodyPost_ret (v := .tuple #[.agg #[.int .i64 e.op, .int .i64 e.n, .int .i64 e.m, .int .i64 e.kind, .int .i64 e.lit.k, .int .i64 e.lit.n, .string e.lit.cutT.s, .slice A2 hs.length c2, .slice R2 2 d2], .int .i64 ((cutE (n + 1) e).2 : Nat)]) (by simp [results, Tryz.results45, go_sem, k0, k1, k2, k3, k4, k5, k6, k7, k8]) rfl ?_
              exact ⟨h, he, by rw [← hv], st9 HZ.out.1 (by omega) _ _ _ _ _ _ _ _ _, (hok.kept (P' := fun b => w.heap.size ≤ b ∧ b < (set9 wr (w.heap.size + 1) (.int .i64 e.op) (.int .i64 e.n) (.int .i64 e.m) (.int .i64 e.kind) (.int .i64 e.lit.k) (.int .i64 e.lit.n) (.string e.lit.cutT.s) (.slice A2 hs.length c2) (.slice R2 2 d2)).heap.size) (fun b hb => set9_far _ _ _ _ _ _ _ _ _ _ _ b (by omega)) fun b hb => ⟨by omega, by rw [set9_size]; exact hb.2⟩)⟩
          · have hlf : decide ((k : Int) < (e.rels.length : Int)) = false := decide_eq_false (by omega)
            have HRow : wr.ownsRow wc.heap.size 133 15 vr (e.rels.take 2).length (rcells (e.rels.take 2)) := by
              have h := HR.out.1
              rw [List.take_of_length_le (by omega)] at h ⊢
              rw [show e.rels.length = k by omega]; exact h
            have HD := Lib.hid (cut_done HH2.out HH.out.1 HH.out.2 HR.out.2 HRow)
            obtain ⟨A2, c2, rfl⟩ := own_slc HH.out.2.1
            obtain ⟨R2, d2, rfl⟩ := own_slc HR.out.1
            have hZ := HC.out.2.2.1
            have HZ := Lib.hid (And.intro HC.out.1 hZ)
            have q0 := hQ.cell 0
            have q1 := hQ.cell 1
            have q2 := hQ.cell 2
            have q3 := hQ.cell 3
            have q4 := hQ.cell 4
            have q5 := hQ.cell 5
            have q6 := hQ.cell 6
            have q7 := hQ.cell 7
            simp only [List.getElem?_toArray, List.getElem?_cons_succ, List.getElem?_cons_zero] at q0 q1 q2 q3 q4 q5 q6 q7
            have g0 := hZ.frozen 0
            have g1 := hZ.frozen 1
            have g2 := hZ.frozen 2
            have g3 := hZ.frozen 3
            have g4 := hZ.frozen 4
            have g5 := hZ.frozen 5
            have g6 := hZ.frozen 6
            have g7 := hZ.frozen 7
            have g8 := hZ.frozen 8
            have z0 := hZ.cell 0
            have z1 := hZ.cell 1
            have z2 := hZ.cell 2
            have z3 := hZ.cell 3
            have z4 := hZ.cell 4
            have z5 := hZ.cell 5
            have z6 := hZ.cell 6
            have z7 := hZ.cell 7
            have z8 := hZ.cell 8
            simp only [List.getElem?_toArray, List.getElem?_cons_succ, List.getElem?_cons_zero] at z0 z1 z2 z3 z4 z5 z6 z7 z8
            clear hZ hB hQ HRow
            go_wp2_with fail
            have HB9 := HZ.out.2.set9_ (.int .i64 e.op) (.int .i64 e.n) (.int .i64 e.m) (.int .i64 e.kind) (.int .i64 e.lit.k) (.int .i64 e.lit.n) (.string e.lit.cutT.s) (.slice A2 hs.length c2) (.slice R2 k d2)
            have k0 := HB9.cell 0
            have k1 := HB9.cell 1
            have k2 := HB9.cell 2
            have k3 := HB9.cell 3
            have k4 := HB9.cell 4
            have k5 := HB9.cell 5
            have k6 := HB9.cell 6
            have k7 := HB9.cell 7
            have k8 := HB9.cell 8
            simp only [List.getElem?_toArray, List.getElem?_cons_succ, List.getElem?_cons_zero] at k0 k1 k2 k3 k4 k5 k6 k7 k8
            obtain ⟨h, he, hv, hok⟩ := HD.out
            refine bodyPost_ret (v := .tuple #[.agg #[.int .i64 e.op, .int .i64 e.n, .int .i64 e.m, .int .i64 e.kind, .int .i64 e.lit.k, .int .i64 e.lit.n, .string e.lit.cutT.s, .slice A2 hs.length c2, .slice R2 k d2], .int .i64 ((cutE (n + 1) e).2 : Nat)]) (by simp [results, Tryz.results45, go_sem, k0, k1, k2, k3, k4, k5, k6, k7, k8]) rfl ?_
            exact ⟨h, he, by rw [← hv], st9 HZ.out.1 (by omega) _ _ _ _ _ _ _ _ _, (hok.kept (P' := fun b => w.heap.size ≤ b ∧ b < (set9 wr (w.heap.size + 1) (.int .i64 e.op) (.int .i64 e.n) (.int .i64 e.m) (.int .i64 e.kind) (.int .i64 e.lit.k) (.int .i64 e.lit.n) (.string e.lit.cutT.s) (.slice A2 hs.length c2) (.slice R2 k d2)).heap.size) (fun b hb => set9_far _ _ _ _ _ _ _ _ _ _ _ b (by omega)) fun b hb => ⟨by omega, by rw [set9_size]; exact hb.2⟩)⟩
end Go.Proofs.YtdiehgfldndgbaaGreatDoor
namespace Go.Proofs.YtdiehgfldndgbaaGreatDoor
open Go.RowKit Go.Deep

/-- nine cells hold an expression -/
structure EAt (w : World) (b o : Nat) (e : E) (A : Option Addr) (c : Nat) (R : Option Addr) (d : Nat) : Prop where
  lt : b < w.heap.size
  c0 : w.cell? ⟨b, o, none⟩ = some (.int .i64 e.op)
  c1 : w.cell? ⟨b, o + 1, none⟩ = some (.int .i64 e.n)
  c2 : w.cell? ⟨b, o + 2, none⟩ = some (.int .i64 e.m)
  c3 : w.cell? ⟨b, o + 3, none⟩ = some (.int .i64 e.kind)
  c4 : w.cell? ⟨b, o + 4, none⟩ = some (.int .i64 e.lit.k)
  c5 : w.cell? ⟨b, o + 5, none⟩ = some (.int .i64 e.lit.n)
  c6 : w.cell? ⟨b, o + 6, none⟩ = some (.string e.lit.s)
  c7 : w.cell? ⟨b, o + 7, none⟩ = some (.slice A e.args.length c)
  c8 : w.cell? ⟨b, o + 8, none⟩ = some (.slice R e.rels.length d)
theorem EAt.below {w w' : World} {b o : Nat} {e : E} {A : Option Addr} {c : Nat} {R : Option Addr} {d : Nat} (h : EAt w b o e A c R d) (hb : Below w.heap.size w w') : EAt w' b o e A c R d :=
  ⟨Nat.lt_of_lt_of_le h.lt hb.size, (hb.cell (p := ⟨b, _, none⟩) h.lt).trans h.c0, (hb.cell (p := ⟨b, _, none⟩) h.lt).trans h.c1, (hb.cell (p := ⟨b, _, none⟩) h.lt).trans h.c2, (hb.cell (p := ⟨b, _, none⟩) h.lt).trans h.c3, (hb.cell (p := ⟨b, _, none⟩) h.lt).trans h.c4, (hb.cell (p := ⟨b, _, none⟩) h.lt).trans h.c5, (hb.cell (p := ⟨b, _, none⟩) h.lt).trans h.c6, (hb.cell (p := ⟨b, _, none⟩) h.lt).trans h.c7, (hb.cell (p := ⟨b, _, none⟩) h.lt).trans h.c8⟩
theorem LOk.eat {w : World} {A : Option Addr} {l : List E} {i : Nat} (h : LOk w (Lo w.heap.size) A l) (hi : i < l.length) : ∃ (b o : Nat) (A' : Option Addr) (c' : Nat) (R' : Option Addr) (d' : Nat), A = some ⟨b, o, none⟩ ∧ EAt w b (o + i * 9) l[i] A' c' R' d' ∧ LOk w (Lo w.heap.size) A' l[i].args ∧ ROk w (Lo w.heap.size) R' l[i].rels := by
  obtain ⟨b, o, rfl, hb, he⟩ := h.at_ hi
  obtain ⟨z0, z1, z2, z3, z4, z5, z6, ⟨A', c', z7, z8⟩, R', d', z9, z10⟩ := EOk.mk_.1 he
  exact ⟨b, o, A', c', R', d', rfl, ⟨hb, z0, z1, z2, z3, z4, z5, z6, z7, z9⟩, z8, z10⟩
/-- one more, whatever came since -/
theorem CArgs.snocW {base : Nat} {wr w3 w4 : World} {v v' : Value} {hs : List HE} {h : HE} (k : CArgs base wr v hs) (hb : Below wr.heap.size wr w3) (hbase : base ≤ wr.heap.size) (hok : h.ok w3 (fun b => wr.heap.size ≤ b ∧ b < w3.heap.size))
    (ho : w4.ownsRow base 30 9 v' (hs.length + 1) (hcells hs ++ hcells [h])) (hg : w3.grownBy w4 v.ownBlock) (hv : v'.ownBlock = v.ownBlock ∨ v'.ownBlock = some w3.heap.size) : CArgs base w4 v' (hs ++ [h]) := by
  have hs4 := hg.size
  have hs3 := hb.size
  have hvb : ∀ g, v.ownBlock = some g → base ≤ g ∧ g < wr.heap.size := fun g hg => k.1.lt g hg
  refine ⟨?_, fun x hx => ?_⟩
  · rw [hcells_append, List.length_append]
    exact ho
  · rcases List.mem_append.1 hx with hx | hx
    · refine (k.2 x hx).kept (fun b hb2 => ?_) fun b hb2 => ?_
      · obtain ⟨h1, h2, h3⟩ := hb2
        rw [hg.block b (by omega) h3]
        exact hb.block b h2
      · obtain ⟨h1, h2, h3⟩ := hb2
        refine ⟨h1, by omega, ?_⟩
        rcases hv with e | e
        · rw [e]; exact h3
        · rw [e]
          intro e2
          injection e2 with e2
          omega
    · rw [List.mem_singleton] at hx
      subst hx
      refine hok.kept (fun b hb2 => ?_) fun b hb2 => ?_
      · have hne : some b ≠ v.ownBlock := fun e => by
          have := (hvb b e.symm).2
          omega
        exact hg.block b (by omega) hne
      · refine ⟨by omega, by omega, ?_⟩
        rcases hv with e | e
        · rw [e]; intro e2; have := (hvb b e2.symm).2; omega
        · rw [e]
          intro e2
          injection e2 with e2
          omega
/-- a store elsewhere -/
theorem CArgs.set_ {base g i : Nat} {w : World} {v : Value} {hs : List HE} (k : CArgs base w v hs) (hg : g < base) (u : Value) : CArgs base (w.setCell ⟨g, i, none⟩ u) v hs := by
  refine ⟨k.1.kept (row := some g) (grown_set _ _ _ _) ?_, fun x hx => (k.2 x hx).kept (fun b hb => Below.heap_setCell w ⟨g, i, none⟩ u b (by have := hb.1; show b ≠ g; omega)) fun b hb => ⟨hb.1, by simpa using hb.2.1, hb.2.2⟩⟩
  cases hv : v.ownBlock with
  | none => exact .inl rfl
  | some b =>
    refine .inr fun e => ?_
    injection e with e
    have := (k.1.lt b hv).1
    omega
theorem CArgs.below {base : Nat} {w w' : World} {v : Value} {hs : List HE} (k : CArgs base w v hs) (hb : Below w.heap.size w w') : CArgs base w' v hs :=
  ⟨own_below k.1 hb, fun x hx => (k.2 x hx).kept (fun b h => hb.block b h.2.1) fun _ h => ⟨h.1, Nat.lt_of_lt_of_le h.2.1 hb.size, h.2.2⟩⟩
theorem CArgs.nil (base : Nat) (w : World) : CArgs base w (.slice none 0 0) [] := ⟨⟨rfl, .inl ⟨rfl, rfl⟩⟩, fun x hx => by cases hx⟩
/-- what was built, read -/
theorem CArgs.reads {base : Nat} {w : World} {v : Value} {hs : List HE} (k : CArgs base w v hs) : ∃ (A : Option Addr) (c : Nat), v = .slice A hs.length c ∧ LOk w (NwB base w.heap.size) A (hs.map HE.e) :=
  LOk.own k.1 (fun x hx => (k.2 x hx).kept (fun _ _ => rfl) fun _ hb => ⟨hb.1, hb.2.1⟩) fun g h1 => k.1.lt g h1
/-- the parameter's block, the result's, and that of what is built -/
structure CInv2 (e : E) (n : Int) (A R : Option Addr) (c d : Nat) (w wr : World) (v : Value) : Prop where
  lo : Below w.heap.size w wr
  par : Blk wr w.heap.size 30 #[.int .i64 e.op, .int .i64 e.n, .int .i64 e.m, .int .i64 e.kind, .int .i64 e.lit.k, .int .i64 e.lit.n, .string e.lit.s, .slice A e.args.length c, .slice R e.rels.length d]
  res : Blk wr (w.heap.size + 1) 30 #[.int .i64 0, .int .i64 0, .int .i64 0, .int .i64 0, .int .i64 0, .int .i64 0, .string ⟨#[]⟩, .slice none 0 0, .slice none 0 0]
  out : Blk wr (w.heap.size + 1 + 1) 30 #[.int .i64 e.op, .int .i64 n, .int .i64 e.m, .int .i64 e.kind, .int .i64 e.lit.k, .int .i64 e.lit.n, .string e.lit.s, v, .slice R e.rels.length d]
theorem CInv2.set7 {e : E} {n : Int} {A R : Option Addr} {c d : Nat} {w wr : World} {v : Value} (h : CInv2 e n A R c d w wr v) (u : Value) : CInv2 e n A R c d w (wr.setCell ⟨w.heap.size + 1 + 1, 7, none⟩ u) u :=
  ⟨h.lo.setCell (p := ⟨w.heap.size + 1 + 1, 7, none⟩) (by simp <;> omega) u, h.par.far (by simp <;> omega) u, h.res.far (by simp) u, h.out.set_ 7 u⟩
theorem CInv2.below {e : E} {n : Int} {A R : Option Addr} {c d : Nat} {w wr w' : World} {v : Value} (h : CInv2 e n A R c d w wr v) (hb : Below wr.heap.size wr w') : CInv2 e n A R c d w w' v :=
  ⟨thn h.lo hb, h.par.below hb h.par.lt, h.res.below hb h.res.lt, h.out.below hb h.out.lt⟩
theorem CInv2.grown {e : E} {n : Int} {A R : Option Addr} {c d : Nat} {w wr w' : World} {v : Value} {row : Option Nat} (h : CInv2 e n A R c d w wr v) (hg : wr.grownBy w' row) (hr : ∀ g, row = some g → w.heap.size + 1 + 1 + 1 ≤ g) : CInv2 e n A R c d w w' v := by
  have hl := h.out.lt
  refine ⟨h.lo.grown hg (by omega) (fun g hg => by have := hr g hg; omega), h.par.grown hg (fun e1 => ?_), h.res.grown hg (fun e1 => ?_), h.out.grown hg (fun e1 => ?_)⟩
  · have := hr _ e1.symm; omega
  · have := hr _ e1.symm; omega
  · have := hr _ e1.symm; omega
theorem CInv2.start (e : E) (n : Int) (A R : Option Addr) (c d : Nat) (w : World) (v : Value) : CInv2 e n A R c d w (((w.alloc (.cells #[.int .i64 e.op, .int .i64 e.n, .int .i64 e.m, .int .i64 e.kind, .int .i64 e.lit.k, .int .i64 e.lit.n, .string e.lit.s, .slice A e.args.length c, .slice R e.rels.length d] 30)).alloc (.cells #[.int .i64 0, .int .i64 0, .int .i64 0, .int .i64 0, .int .i64 0, .int .i64 0, .string ⟨#[]⟩, .slice none 0 0, .slice none 0 0] 30)).alloc (.cells #[.int .i64 e.op, .int .i64 n, .int .i64 e.m, .int .i64 e.kind, .int .i64 e.lit.k, .int .i64 e.lit.n, .string e.lit.s, v, .slice R e.rels.length d] 30)) v :=
  ⟨al (al (al (Below.refl _ _) _) _) _, ((Blk.new w 30 _).alloc _).alloc _, (Blk.new' (by simp)).alloc _, Blk.new' (by simp)⟩
/-- what a call gave, as an operation of a drawn region holds it -/
def HGot (X : E) (B : Nat) (u : Value) (w : World) : Prop := ∃ h : HE, (h.e = X ∧ u = h.val) ∧ B ≤ w.heap.size ∧ h.ok w (fun b => B ≤ b ∧ b < w.heap.size)
theorem HE.ok.more {B : Nat} {w w' : World} {h : HE} (k : h.ok w (fun b => B ≤ b ∧ b < w.heap.size)) (hb : Below w.heap.size w w') : h.ok w' (fun b => B ≤ b ∧ b < w'.heap.size) := k.kept (fun b hb2 => hb.block b hb2.2) fun _ hb2 => ⟨hb2.1, Nat.lt_of_lt_of_le hb2.2 hb.size⟩
theorem HGot.below {X : E} {B : Nat} {u : Value} {w w' : World} (k : HGot X B u w) (hb : Below w.heap.size w w') : HGot X B u w' := k.imp fun _ k => ⟨k.1, Nat.le_trans k.2.1 hb.size, k.2.2.more hb⟩
/-- it lies in a block of its own, as an append's source -/
def HBuilt (X : E) (B : Nat) (u : Value) (w : World) : Prop := ∃ (g : Nat) (h : HE), (u = .slice (some ⟨g, 0, none⟩) 1 1 ∧ B ≤ g) ∧ Blk w g 30 h.cells.toArray ∧ h.e = X ∧ h.ok w (fun b => B ≤ b ∧ b < w.heap.size)
theorem HBuilt.below {X : E} {B : Nat} {u : Value} {w w' : World} (k : HBuilt X B u w) (hb : Below w.heap.size w w') : HBuilt X B u w' := k.imp fun _ k => k.imp fun _ k => ⟨k.1, k.2.1.below hb k.2.1.lt, k.2.2.1, k.2.2.2.more hb⟩
theorem HBuilt.new {X : E} {B : Nat} {w : World} {h : HE} (hh : h.e = X) (hB : B ≤ w.heap.size) (k : h.ok w (fun b => B ≤ b ∧ b < w.heap.size)) : HBuilt X B (.slice (some ⟨w.heap.size, 0, none⟩) 1 1) (w.alloc (.cells h.cells.toArray 30)) :=
  ⟨_, h, ⟨rfl, hB⟩, Blk.new _ _ _, hh, k.more (al (Below.refl _ _) _)⟩
theorem HGot.new {X : E} {B : Nat} {w0 w : World} {h : HE} (hh : h.e = X) (hB : B ≤ w0.heap.size) (hb : Below w0.heap.size w0 w) (k : h.ok w (NwB w0.heap.size w.heap.size)) : HGot X B h.val w :=
  ⟨h, ⟨hh, rfl⟩, Nat.le_trans hB hb.size, k.kept (fun _ _ => rfl) fun _ hb => ⟨Nat.le_trans hB hb.1, hb.2⟩⟩
end Go.Proofs.YtdiehgfldndgbaaGreatDoor
