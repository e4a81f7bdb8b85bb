/-
  Tre: TREES: expressions in memory, and expressions that came in.
  CutM: MATHEMATICS of the reference's Cut of expressions: at most so many nodes, short texts, at most two relations.
  LfI: MATHEMATICS: a leaf holds numbers that came in.
-/
import Derived.Test.YtdiehgfldndgbaaGreatDoorGA02
import Derived.Deep.Slices
import Derived.Deep.Fields
import Derived.ChangeSame
import Derived.Laws.AppendOwn
import Derived.Below
namespace Go.Proofs.YtdiehgfldndgbaaGreatDoor
open Go.RowKit Go.Deep

/-- an expression: its fields, its arguments, the operations of its relations -/
inductive E where
  | mk (op n m kind : Int) (lit : V) (args : List E) (rels : List Int)
namespace E
def op : E → Int | mk x _ _ _ _ _ _ => x
def n : E → Int | mk _ x _ _ _ _ _ => x
def m : E → Int | mk _ _ x _ _ _ _ => x
def kind : E → Int | mk _ _ _ x _ _ _ => x
def lit : E → V | mk _ _ _ _ x _ _ => x
def args : E → List E | mk _ _ _ _ _ x _ => x
def rels : E → List Int | mk _ _ _ _ _ _ x => x
theorem eta : ∀ e : E, e = mk e.op e.n e.m e.kind e.lit e.args e.rels
  | mk .. => rfl
end E
theorem cE : Tryz.prog.cellsOf 30 = 9 := by kernel_rfl
theorem cRl : Tryz.prog.cellsOf 133 = 15 := by kernel_rfl
/-- the operations of relations are read, in blocks of P -/
def ROk (w : World) (P : Nat → Prop) (A : Option Addr) (l : List Int) : Prop :=
  0 < l.length → ∃ b o, A = some ⟨b, o, none⟩ ∧ P b ∧ ∀ i x, l[i]? = some x → w.cell? ⟨b, o + i * 15, none⟩ = some (.int .i64 x)
mutual
/-- nine cells read as an expression, whose lists lie in blocks of P -/
def EOk (w : World) (P : Nat → Prop) : E → (Nat → Option Value) → Prop
  | .mk op n m k lit args rels, f => f 0 = some (.int .i64 op) ∧ f 1 = some (.int .i64 n) ∧ f 2 = some (.int .i64 m) ∧ f 3 = some (.int .i64 k) ∧ f 4 = some (.int .i64 lit.k) ∧ f 5 = some (.int .i64 lit.n) ∧ f 6 = some (.string lit.s) ∧
    (∃ A c, f 7 = some (.slice A args.length c) ∧ LOk w P A args) ∧ ∃ A c, f 8 = some (.slice A rels.length c) ∧ ROk w P A rels
/-- a list of expressions is read -/
def LOk (w : World) (P : Nat → Prop) : Option Addr → List E → Prop
  | _, [] => True
  | A, e :: l => ∃ b o, A = some ⟨b, o, none⟩ ∧ P b ∧ EOk w P e (fun j => w.cell? ⟨b, o + j, none⟩) ∧ LOk w P (some ⟨b, o + 9, none⟩) l
end
theorem EOk.mk_ {w : World} {P : Nat → Prop} {e : E} {f : Nat → Option Value} : EOk w P e f ↔ (f 0 = some (.int .i64 e.op) ∧ f 1 = some (.int .i64 e.n) ∧ f 2 = some (.int .i64 e.m) ∧ f 3 = some (.int .i64 e.kind) ∧ f 4 = some (.int .i64 e.lit.k) ∧ f 5 = some (.int .i64 e.lit.n) ∧ f 6 = some (.string e.lit.s) ∧
    (∃ A c, f 7 = some (.slice A e.args.length c) ∧ LOk w P A e.args) ∧ ∃ A c, f 8 = some (.slice A e.rels.length c) ∧ ROk w P A e.rels) := by
  cases e
  rw [EOk]
  exact Iff.rfl
theorem LOk.at_ {w : World} {P : Nat → Prop} : ∀ {l : List E} {A : Option Addr} {i : Nat}, LOk w P A l → (h : i < l.length) → ∃ b o, A = some ⟨b, o, none⟩ ∧ P b ∧ EOk w P l[i] (fun j => w.cell? ⟨b, o + i * 9 + j, none⟩)
  | [], _, i, _, h => absurd h (Nat.not_lt_zero _)
  | e :: l, A, 0, hl, _ => by
    rw [LOk] at hl
    obtain ⟨b, o, rfl, hP, he, _⟩ := hl
    exact ⟨b, o, rfl, hP, by simpa using he⟩
  | e :: l, A, i + 1, hl, h => by
    rw [LOk] at hl
    obtain ⟨b, o, rfl, _, _, hl⟩ := hl
    obtain ⟨b', o', e', hP, he⟩ := LOk.at_ (i := i) hl (by simpa using h)
    injection e' with e'
    injection e' with e1 e2 _
    subst e1 e2
    refine ⟨b, o, rfl, hP, ?_⟩
    have : ∀ j, o + 9 + i * 9 + j = o + (i + 1) * 9 + j := fun j => by omega
    simp only [this] at he
    exact he
theorem LOk.of {w : World} {P : Nat → Prop} : ∀ {l : List E} {b o : Nat}, P b → (∀ i (h : i < l.length), EOk w P l[i] (fun j => w.cell? ⟨b, o + i * 9 + j, none⟩)) → LOk w P (some ⟨b, o, none⟩) l
  | [], _, _, _, _ => by rw [LOk]; trivial
  | e :: l, b, o, hP, h => by
    rw [LOk]
    refine ⟨b, o, rfl, hP, by simpa using h 0 (Nat.zero_lt_succ _), LOk.of hP fun i hi => ?_⟩
    have := h (i + 1) (Nat.succ_lt_succ hi)
    have e' : ∀ j, o + (i + 1) * 9 + j = o + 9 + i * 9 + j := fun j => by omega
    simp only [e'] at this
    exact this
theorem LOk.nil_ {w : World} {P : Nat → Prop} {A : Option Addr} : LOk w P A [] := by rw [LOk]; trivial
theorem ROk.kept {w w' : World} {P P' : Nat → Prop} {A : Option Addr} {l : List Int} (h : ROk w P A l) (hw : ∀ b, P b → w'.heap[b]? = w.heap[b]?) (hP : ∀ b, P b → P' b) : ROk w' P' A l := fun h0 => by
  obtain ⟨b, o, rfl, hb, hc⟩ := h h0
  exact ⟨b, o, rfl, hP b hb, fun i x hi => (World.cell?_of_block (a := ⟨b, _, none⟩) (hw b hb)).trans (hc i x hi)⟩
mutual
theorem EOk.kept {w w' : World} {P P' : Nat → Prop} (hw : ∀ b, P b → w'.heap[b]? = w.heap[b]?) (hP : ∀ b, P b → P' b) : ∀ {e : E} {f : Nat → Option Value}, EOk w P e f → EOk w' P' e f
  | .mk .., f, h => by
    rw [EOk] at h ⊢
    obtain ⟨h0, h1, h2, h3, h4, h5, h6, ⟨A, c, h7, h8⟩, B, d, h9, h10⟩ := h
    exact ⟨h0, h1, h2, h3, h4, h5, h6, ⟨A, c, h7, LOk.kept hw hP h8⟩, B, d, h9, h10.kept hw hP⟩
theorem LOk.kept {w w' : World} {P P' : Nat → Prop} (hw : ∀ b, P b → w'.heap[b]? = w.heap[b]?) (hP : ∀ b, P b → P' b) : ∀ {l : List E} {A : Option Addr}, LOk w P A l → LOk w' P' A l
  | [], _, _ => by rw [LOk]; trivial
  | e :: l, A, h => by
    rw [LOk] at h ⊢
    obtain ⟨b, o, rfl, hb, he, hl⟩ := h
    refine ⟨b, o, rfl, hP b hb, ?_, LOk.kept hw hP hl⟩
    have e1 : (fun j => w'.cell? ⟨b, o + j, none⟩) = fun j => w.cell? ⟨b, o + j, none⟩ := funext fun j => World.cell?_of_block (a := ⟨b, _, none⟩) (hw b hb)
    rw [e1]
    exact EOk.kept hw hP he
end
/-- in blocks below B -/
abbrev Lo (B : Nat) : Nat → Prop := fun b => b < B
theorem LOk.below {w w' : World} {B B' : Nat} {A : Option Addr} {l : List E} (h : LOk w (Lo B) A l) (hb : Below B w w') (hB : B ≤ B') : LOk w' (Lo B') A l := h.kept (fun b h => hb.block b h) fun _ h => Nat.lt_of_lt_of_le h hB
theorem ROk.below {w w' : World} {B B' : Nat} {A : Option Addr} {l : List Int} (h : ROk w (Lo B) A l) (hb : Below B w w') (hB : B ≤ B') : ROk w' (Lo B') A l := h.kept (fun b h => hb.block b h) fun _ h => Nat.lt_of_lt_of_le h hB
mutual
/-- sizes and numbers that came in -/
def EIn : E → Prop
  | .mk op n m k lit args rels => I64 op ∧ I64 n ∧ I64 m ∧ I64 k ∧ I64 lit.k ∧ I64 lit.n ∧ lit.s.size ≤ maxLen ∧ args.length ≤ maxLen ∧ rels.length ≤ maxLen ∧ (∀ x ∈ rels, I64 x) ∧ LIn args
def LIn : List E → Prop
  | [] => True
  | e :: l => EIn e ∧ LIn l
end
theorem EIn.args {e : E} (h : EIn e) : LIn e.args := by cases e; rw [EIn] at h; exact h.2.2.2.2.2.2.2.2.2.2
theorem LIn.mem : ∀ {l : List E}, LIn l → ∀ e ∈ l, EIn e
  | e :: l, h, x, hx => by
    rw [LIn] at h
    rcases List.mem_cons.1 hx with rfl | hx
    · exact h.1
    · exact LIn.mem h.2 x hx
theorem LIn.of : ∀ {l : List E}, (∀ e ∈ l, EIn e) → LIn l
  | [], _ => by rw [LIn]; trivial
  | e :: l, h => by rw [LIn]; exact ⟨h e (List.mem_cons_self ..), LIn.of fun x hx => h x (List.mem_cons_of_mem _ hx)⟩

section
variable {H : Type} {enc : TypeId × Value → H} {w : World} {base : Nat} {spare : Nat → Bool} {held : Bool}
/-- an element of a slice that was read -/
theorem elem_of {α : Type} {f : List Value → Option α} {c : Option (List Value)} {l : List α} {i : Nat} (h : c.bind f = l[i]?) (hi : i < l.length) : ∃ cs x, c = some cs ∧ f cs = some x := by
  rw [List.getElem?_eq_getElem hi] at h
  cases c with
  | none => cases h
  | some cs => exact ⟨cs, l[i], rfl, h⟩
theorem plain_of {a : Addr} {u : Value} (h : w.cell? (a.add 0) = some u) : ∃ b o, a = ⟨b, o, none⟩ ∧ b < w.heap.size := by
  obtain ⟨b, o, sp⟩ := a
  have hsp : sp = none := by simpa [Addr.add] using World.cell?_spot h
  subst hsp
  have hb : b < w.heap.size := by
    have := block_lt_of_cell h
    simpa [Addr.add] using this
  exact ⟨b, o, rfl, hb⟩
theorem add_at (b o j : Nat) : (Addr.mk b o none).add j = ⟨b, o + j, none⟩ := by
  unfold Addr.add
  split
  · rename_i h; subst h; rfl
  · rfl
theorem nine {cs : List Value} (h : cs.length = 9) : ∃ c0 c1 c2 c3 c4 c5 c6 c7 c8, cs = [c0, c1, c2, c3, c4, c5, c6, c7, c8] := by
  match cs, h with
  | [c0, c1, c2, c3, c4, c5, c6, c7, c8], _ => exact ⟨_, _, _, _, _, _, _, _, _, rfl⟩
theorem wf_i64T {n : Int} (h : (Lit.int .i64 n).wf = true) : I64 n := by
  simp [Lit.wf, IntKind.min, IntKind.max, IntKind.signed, IntKind.bits] at h
  exact ⟨by omega, by omega⟩
theorem some_of {α : Type} {o : Option α} {l : List α} {i : Nat} (h : o = l[i]?) (hi : i < l.length) : ∃ x, o = some x := ⟨l[i], by rw [h, List.getElem?_eq_getElem hi]⟩
theorem list_by {α : Type} {p : Nat → α → Prop} : ∀ n : Nat, (∀ i, i < n → ∃ x, p i x) → ∃ l : List α, l.length = n ∧ ∀ i (h : i < l.length), p i l[i]
  | 0, _ => ⟨[], rfl, fun i h => absurd h (Nat.not_lt_zero _)⟩
  | n + 1, h => by
    obtain ⟨l, h1, h2⟩ := list_by n fun i hi => h i (by omega)
    obtain ⟨x, hx⟩ := h n (by omega)
    refine ⟨l ++ [x], by rw [List.length_append, h1]; rfl, fun i hi => ?_⟩
    by_cases hl : i < l.length
    · rw [List.getElem_append_left hl]
      exact h2 i hl
    · have hin : i = n := by simp at hi; omega
      subst hin
      rw [List.getElem_append_right (by omega)]
      simpa [h1] using hx
set_option maxRecDepth 100000 in
set_option maxHeartbeats 1000000 in
/-- an expression, read as data -/
theorem expr_of : ∀ (fuel : Nat) (cs : List Value) (x : DataW H × List MemPlace), DataW.trod enc Tryz.prog w base spare held fuel 30 cs = some x → ∃ e : E, EOk w (Lo w.heap.size) e (fun j => cs[j]?) ∧ EIn e := by
  intro fuel
  induction fuel using Nat.strongRecOn with
  | _ fuel ih =>
    intro cs x h
    obtain ⟨xs, n, hfu, -, hlen, hxl, hf⟩ := DataW.trod_struct Tryz.underlying30 h
    rw [cE] at hlen
    obtain ⟨c0, c1, c2, c3, c4, c5, c6, c7, c8, rfl⟩ := nine hlen
    have hx7 : xs.length = 7 := hxl
    have t0 := hf 0 _ rfl
    change DataW.trod enc Tryz.prog w base spare held n 24 ((([c0, c1, c2, c3, c4, c5, c6, c7, c8] : List Value).drop 0).take (Tryz.prog.cellsOf 24)) = xs[0]? at t0
    rw [show Tryz.prog.cellsOf 24 = 1 by kernel_rfl] at t0
    change DataW.trod enc Tryz.prog w base spare held n 24 [c0] = xs[0]? at t0
    obtain ⟨x0, t0⟩ := some_of t0 (by omega)
    have t1 := hf 1 _ rfl
    change DataW.trod enc Tryz.prog w base spare held n 3 ((([c0, c1, c2, c3, c4, c5, c6, c7, c8] : List Value).drop 1).take (Tryz.prog.cellsOf 3)) = xs[1]? at t1
    rw [show Tryz.prog.cellsOf 3 = 1 by kernel_rfl] at t1
    change DataW.trod enc Tryz.prog w base spare held n 3 [c1] = xs[1]? at t1
    obtain ⟨x1, t1⟩ := some_of t1 (by omega)
    have t2 := hf 2 _ rfl
    change DataW.trod enc Tryz.prog w base spare held n 3 ((([c0, c1, c2, c3, c4, c5, c6, c7, c8] : List Value).drop 2).take (Tryz.prog.cellsOf 3)) = xs[2]? at t2
    rw [show Tryz.prog.cellsOf 3 = 1 by kernel_rfl] at t2
    change DataW.trod enc Tryz.prog w base spare held n 3 [c2] = xs[2]? at t2
    obtain ⟨x2, t2⟩ := some_of t2 (by omega)
    have t3 := hf 3 _ rfl
    change DataW.trod enc Tryz.prog w base spare held n 25 ((([c0, c1, c2, c3, c4, c5, c6, c7, c8] : List Value).drop 3).take (Tryz.prog.cellsOf 25)) = xs[3]? at t3
    rw [show Tryz.prog.cellsOf 25 = 1 by kernel_rfl] at t3
    change DataW.trod enc Tryz.prog w base spare held n 25 [c3] = xs[3]? at t3
    obtain ⟨x3, t3⟩ := some_of t3 (by omega)
    have t4 := hf 4 _ rfl
    change DataW.trod enc Tryz.prog w base spare held n 27 ((([c0, c1, c2, c3, c4, c5, c6, c7, c8] : List Value).drop 4).take (Tryz.prog.cellsOf 27)) = xs[4]? at t4
    rw [show Tryz.prog.cellsOf 27 = 3 by kernel_rfl] at t4
    change DataW.trod enc Tryz.prog w base spare held n 27 [c4, c5, c6] = xs[4]? at t4
    obtain ⟨x4, t4⟩ := some_of t4 (by omega)
    have t5 := hf 5 _ rfl
    change DataW.trod enc Tryz.prog w base spare held n 22 ((([c0, c1, c2, c3, c4, c5, c6, c7, c8] : List Value).drop 7).take (Tryz.prog.cellsOf 22)) = xs[5]? at t5
    rw [show Tryz.prog.cellsOf 22 = 1 by kernel_rfl] at t5
    change DataW.trod enc Tryz.prog w base spare held n 22 [c7] = xs[5]? at t5
    obtain ⟨x5, t5⟩ := some_of t5 (by omega)
    have t6 := hf 6 _ rfl
    change DataW.trod enc Tryz.prog w base spare held n 28 ((([c0, c1, c2, c3, c4, c5, c6, c7, c8] : List Value).drop 8).take (Tryz.prog.cellsOf 28)) = xs[6]? at t6
    rw [show Tryz.prog.cellsOf 28 = 1 by kernel_rfl] at t6
    change DataW.trod enc Tryz.prog w base spare held n 28 [c8] = xs[6]? at t6
    obtain ⟨x6, t6⟩ := some_of t6 (by omega)
    obtain ⟨op, e0, -, w0⟩ := DataW.trod_int Tryz.underlying24 t0
    obtain ⟨nn, e1, -, w1⟩ := DataW.trod_int Tryz.underlying3 t1
    obtain ⟨mm, e2, -, w2⟩ := DataW.trod_int Tryz.underlying3 t2
    obtain ⟨kk, e3, -, w3⟩ := DataW.trod_int Tryz.underlying25 t3
    obtain ⟨ys, n4, -, -, -, hyl, hg⟩ := DataW.trod_struct Tryz.underlying27 t4
    have hy3 : ys.length = 3 := hyl
    have v0 := hg 0 _ rfl
    change DataW.trod enc Tryz.prog w base spare held n4 25 ((([c4, c5, c6] : List Value).drop 0).take (Tryz.prog.cellsOf 25)) = ys[0]? at v0
    rw [show Tryz.prog.cellsOf 25 = 1 by kernel_rfl] at v0
    change DataW.trod enc Tryz.prog w base spare held n4 25 [c4] = ys[0]? at v0
    obtain ⟨y0, v0⟩ := some_of v0 (by omega)
    have v1 := hg 1 _ rfl
    change DataW.trod enc Tryz.prog w base spare held n4 2 ((([c4, c5, c6] : List Value).drop 1).take (Tryz.prog.cellsOf 2)) = ys[1]? at v1
    rw [show Tryz.prog.cellsOf 2 = 1 by kernel_rfl] at v1
    change DataW.trod enc Tryz.prog w base spare held n4 2 [c5] = ys[1]? at v1
    obtain ⟨y1, v1⟩ := some_of v1 (by omega)
    have v2 := hg 2 _ rfl
    change DataW.trod enc Tryz.prog w base spare held n4 9 ((([c4, c5, c6] : List Value).drop 2).take (Tryz.prog.cellsOf 9)) = ys[2]? at v2
    rw [show Tryz.prog.cellsOf 9 = 1 by kernel_rfl] at v2
    change DataW.trod enc Tryz.prog w base spare held n4 9 [c6] = ys[2]? at v2
    obtain ⟨y2, v2⟩ := some_of v2 (by omega)
    obtain ⟨lk, e4, -, w4⟩ := DataW.trod_int Tryz.underlying25 v0
    obtain ⟨ln, e5, -, w5⟩ := DataW.trod_int Tryz.underlying2 v1
    obtain ⟨ls, e6, -, w6⟩ := DataW.trod_string Tryz.underlying9 v2
    have i0 := wf_i64T w0
    have i1 := wf_i64T w1
    have i2 := wf_i64T w2
    have i3 := wf_i64T w3
    have i4 := wf_i64T w4
    have i5 := wf_i64T w5
    simp only [List.cons.injEq, and_true] at e0 e1 e2 e3 e4 e5 e6
    subst e0 e1 e2 e3 e4 e5 e6
    have hA : ∃ (A : Option Addr) (c : Nat) (l : List E), c7 = .slice A l.length c ∧ LOk w (Lo w.heap.size) A l ∧ l.length ≤ maxLen ∧ LIn l := by
      rcases DataW.trod_slice Tryz.underlying22 t5 with ⟨h1, -⟩ | ⟨a, len, cap, el, rest, n5, hn5, h1, -, -, hlc, hcm, hel, hat, -, -⟩
      · simp only [List.cons.injEq, and_true] at h1
        exact ⟨none, 0, [], h1, LOk.nil_, Nat.zero_le _, by rw [LIn]; trivial⟩
      · simp only [List.cons.injEq, and_true] at h1
        have hone : ∀ i, i < len → ∃ e : E, EOk w (Lo w.heap.size) e (fun j => w.cell? ((a.add (i * 9)).add j)) ∧ EIn e := fun i hi => by
          obtain ⟨cs', y, hc, hy⟩ := elem_of (hat i hi) (by omega)
          rw [cE] at hc
          obtain ⟨-, hcl, hc2⟩ := World.cells?_some hc
          obtain ⟨e, he1, he2⟩ := ih n5 (by omega) cs' y hy
          refine ⟨e, ?_, he2⟩
          rw [EOk.mk_] at he1 ⊢
          obtain ⟨z0, z1, z2, z3, z4, z5, z6, ⟨A, c, z7, z8⟩, R, d, z9, z10⟩ := he1
          exact ⟨(hc2 0 (by omega)).trans z0, (hc2 1 (by omega)).trans z1, (hc2 2 (by omega)).trans z2, (hc2 3 (by omega)).trans z3, (hc2 4 (by omega)).trans z4, (hc2 5 (by omega)).trans z5, (hc2 6 (by omega)).trans z6, ⟨A, c, (hc2 7 (by omega)).trans z7, z8⟩, R, d, (hc2 8 (by omega)).trans z9, z10⟩
        obtain ⟨l, hll, hlp⟩ := list_by len hone
        subst hll
        refine ⟨some a, cap, l, h1, ?_, by omega, LIn.of fun e he => ?_⟩
        · by_cases h0 : 0 < l.length
          · have z := (EOk.mk_.1 (hlp 0 h0).1).1
            rw [Nat.zero_mul] at z
            have z' : w.cell? (a.add 0) = some (.int .i64 l[0].op) := by
              rw [show (a.add 0).add 0 = a.add 0 by simp [Addr.add]] at z
              exact z
            obtain ⟨b, o, rfl, hb⟩ := plain_of z'
            refine LOk.of hb fun i hi => ?_
            have z2 := (hlp i hi).1
            simp only [add_at] at z2
            exact z2
          · rw [List.eq_nil_of_length_eq_zero (by omega : l.length = 0)]
            exact LOk.nil_
        · obtain ⟨i, hi, rfl⟩ := List.getElem_of_mem he
          exact (hlp i hi).2
    have hR : ∃ (A : Option Addr) (c : Nat) (l : List Int), c8 = .slice A l.length c ∧ ROk w (Lo w.heap.size) A l ∧ l.length ≤ maxLen ∧ ∀ x ∈ l, I64 x := by
      rcases DataW.trod_slice Tryz.underlying28 t6 with ⟨h1, -⟩ | ⟨a, len, cap, el, rest, n5, hn5, h1, -, -, hlc, hcm, hel, hat, -, -⟩
      · simp only [List.cons.injEq, and_true] at h1
        exact ⟨none, 0, [], h1, (fun h0 => absurd h0 (by simp)), Nat.zero_le _, fun x hx => by cases hx⟩
      · simp only [List.cons.injEq, and_true] at h1
        have hone : ∀ i, i < len → ∃ x : Int, w.cell? ((a.add (i * 15)).add 0) = some (.int .i64 x) ∧ I64 x := fun i hi => by
          obtain ⟨cs', y, hc, hy⟩ := elem_of (hat i hi) (by omega)
          rw [cRl] at hc
          obtain ⟨-, hcl, hc2⟩ := World.cells?_some hc
          obtain ⟨zs, n6, -, -, -, hzl, hz⟩ := DataW.trod_struct Tryz.underlying133 hy
          have hz15 : zs.length = 15 := hzl
          obtain ⟨u, us, rfl⟩ : ∃ u us, cs' = u :: us := by
            cases cs' with
            | nil => cases hcl
            | cons u us => exact ⟨u, us, rfl⟩
          have q0 := hz 0 _ rfl
          change DataW.trod enc Tryz.prog w base spare held n6 127 (((u :: us).drop 0).take (Tryz.prog.cellsOf 127)) = zs[0]? at q0
          rw [show Tryz.prog.cellsOf 127 = 1 by kernel_rfl] at q0
          change DataW.trod enc Tryz.prog w base spare held n6 127 [u] = zs[0]? at q0
          obtain ⟨r0, q0⟩ := some_of q0 (by omega)
          obtain ⟨rr, e, -, wr⟩ := DataW.trod_int Tryz.underlying127 q0
          simp only [List.cons.injEq, and_true] at e
          subst e
          exact ⟨rr, (hc2 0 (by omega)).trans rfl, wf_i64T wr⟩
        obtain ⟨l, hll, hlp⟩ := list_by len hone
        subst hll
        refine ⟨some a, cap, l, h1, fun h0 => ?_, by omega, fun x hx => ?_⟩
        · have z := (hlp 0 h0).1
          rw [Nat.zero_mul] at z
          have z' : w.cell? (a.add 0) = some (.int .i64 l[0]) := by
            rw [show (a.add 0).add 0 = a.add 0 by simp [Addr.add]] at z
            exact z
          obtain ⟨b, o, rfl, hb⟩ := plain_of z'
          refine ⟨b, o, rfl, hb, fun i x hx => ?_⟩
          obtain ⟨hi, rfl⟩ := List.getElem?_eq_some_iff.1 hx
          have z2 := (hlp i hi).1
          simp only [add_at] at z2
          exact z2
        · obtain ⟨i, hi, rfl⟩ := List.getElem_of_mem hx
          exact (hlp i hi).2
    obtain ⟨A, c, l, rfl, h7, h8, h9⟩ := hA
    obtain ⟨R, d, rl, rfl, h10, h11, h12⟩ := hR
    refine ⟨.mk op nn mm kk ⟨lk, ln, ls⟩ l rl, ?_, ?_⟩
    · rw [EOk]
      exact ⟨rfl, rfl, rfl, rfl, rfl, rfl, rfl, ⟨A, c, rfl, h7⟩, R, d, rfl, h10⟩
    · rw [EIn]
      exact ⟨i0, i1, i2, i3, i4, i5, w6, h8, h11, h12, h9⟩
end
end Go.Proofs.YtdiehgfldndgbaaGreatDoor
namespace Go.Proofs.YtdiehgfldndgbaaGreatDoor
open Go.RowKit

mutual
/-- how many nodes there are -/
def nodesE : E → Nat
  | .mk _ _ _ _ _ args _ => 1 + nodesL args
def nodesL : List E → Nat
  | [] => 0
  | e :: l => nodesE e + nodesL l
end
/-- a value whose text is cut -/
def V.cutT (v : V) : V := ⟨v.k, v.n, v.s.extract 0 (min v.s.size 202)⟩
mutual
/-- the copy of at most so many nodes, and how many are left -/
def cutE : Nat → E → E × Nat
  | left, .mk op n m k lit args rels => (.mk op n m k lit.cutT (cutEL (left - 1) args).1 (rels.take 2), (cutEL (left - 1) args).2)
def cutEL : Nat → List E → List E × Nat
  | left, [] => ([], left)
  | left, e :: l => if left = 0 then ([], 0) else ((cutE left e).1 :: (cutEL (cutE left e).2 l).1, (cutEL (cutE left e).2 l).2)
end
mutual
theorem cutE_count : ∀ (left : Nat) (e : E), 0 < left → nodesE (cutE left e).1 + (cutE left e).2 = left
  | left, .mk op n m k lit args rels, h => by
    have := cutEL_count (left - 1) args
    simp only [cutE, nodesE]
    omega
theorem cutEL_count : ∀ (left : Nat) (l : List E), nodesL (cutEL left l).1 + (cutEL left l).2 = left
  | left, [] => by simp [cutEL, nodesL]
  | left, e :: l => by
    rw [cutEL]
    split
    · simp only [nodesL]; omega
    · have h1 := cutE_count left e (by omega)
      have h2 := cutEL_count (cutE left e).2 l
      simp only [nodesL]
      omega
end
theorem cutEL_left (left : Nat) (l : List E) : (cutEL left l).2 ≤ left := by
  have := cutEL_count left l
  omega
/-- the first j elements, one after the other -/
theorem cutEL_snoc : ∀ (l : List E) (left : Nat) (e : E), 0 < (cutEL left l).2 → cutEL left (l ++ [e]) = ((cutEL left l).1 ++ [(cutE (cutEL left l).2 e).1], (cutE (cutEL left l).2 e).2)
  | [], left, e, h => by
    simp only [cutEL, List.nil_append] at h ⊢
    rw [if_neg (by omega)]
  | x :: l, left, e, h => by
    rw [List.cons_append, cutEL, cutEL]
    rw [cutEL] at h
    split
    · rename_i h0
      rw [if_pos h0] at h
      exact absurd h (Nat.lt_irrefl _)
    · rename_i h0
      rw [if_neg h0] at h
      rw [cutEL_snoc l _ e h]
      rfl
theorem cutEL_stop : ∀ (l r : List E) (left : Nat), (cutEL left l).2 = 0 → cutEL left (l ++ r) = cutEL left l
  | [], r, left, h => by
    simp only [cutEL] at h
    subst h
    cases r with
    | nil => rfl
    | cons e r => simp [cutEL]
  | x :: l, r, left, h => by
    rw [List.cons_append, cutEL, cutEL]
    rw [cutEL] at h
    split
    · rfl
    · rename_i h0
      rw [if_neg h0] at h
      rw [cutEL_stop l r _ h]
end Go.Proofs.YtdiehgfldndgbaaGreatDoor
namespace Go.Proofs.YtdiehgfldndgbaaGreatDoor
open Go.RowKit Go.Deep

theorem leaf_in {op n m k : Int} {v : V} (h0 : I64 op) (h1 : I64 n) (h2 : I64 m) (h3 : I64 k) (h4 : I64 v.k) (h5 : I64 v.n) (h6 : v.s.size ≤ maxLen) : EIn (.mk op n m k v [] []) := by
  rw [EIn, LIn]
  exact ⟨h0, h1, h2, h3, h4, h5, h6, Nat.zero_le _, Nat.zero_le _, (fun x hx => by cases hx), trivial⟩
end Go.Proofs.YtdiehgfldndgbaaGreatDoor
