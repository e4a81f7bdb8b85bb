/-
  Nod: CONTRACT of the reference's nodes: how many nodes an expression has, or more than there may be.
  FrmE: CONTRACTS of the reference's Real and Many: kinds of expressions, how many arguments an operation has.
  FmM: MATHEMATICS of expressions: which ones have the form, which ones are the same.
  Wrd: CONTRACT of the reference's KindWord.
  ScM: MATHEMATICS of plain expressions: columns, conjuncts, strings, kinds.
  GS: WHAT THE PACKAGE-LEVEL VARIABLES OF PACKAGE scalar HOLD, as the contracts ask it.
  Hld: HELD EXPRESSIONS: rows of expressions that a call owns; what they read as.
  Bx: BLOCKS OF NINE CELLS, and held expressions in blocks that are not a growing row's.
  NwB: WORDS: numbers that are read; blocks that came since.
  Tak: CONTRACT of scalar.takes: whether an operation may have so many arguments.
  ShL: MATHEMATICS: the form of a list.
  Ssf: MATHEMATICS: an expression is the same as itself.
  OpE: THE ARGUMENTS OPENED: an expression, a list of expressions.
-/
import Derived.Test.YtdiehgfldndgbaaGreatDoorGA06
import Derived.Test.YtdiehgfldndgbaaGreatDoorGA02
import Derived.WalkKit
import Derived.WalkSpells
import Derived.WalkLawsBesides
import Derived.Deep.QuietTactic
import Derived.BigQuiet
import Derived.Deep.Light
import Derived.Lib.Hide
import Derived.Test.YtdiehgfldndgbaaGreatDoorGA03
import Derived.Test.YtdiehgfldndgbaaGreatDoorGA04
import Derived.WideShapes
import Derived.ChangeSame
namespace Go.Proofs.YtdiehgfldndgbaaGreatDoor
open Go.RowKit

/-- an expression, as it is handed over -/
def E.val (e : E) (A : Option Addr) (c : Nat) (R : Option Addr) (d : Nat) : Value :=
  .agg #[.int .i64 e.op, .int .i64 e.n, .int .i64 e.m, .int .i64 e.kind, .int .i64 e.lit.k, .int .i64 e.lit.n, .string e.lit.s, .slice A e.args.length c, .slice R e.rels.length d]
mutual
def nodesN : E → Nat
  | .mk _ _ _ _ _ args _ => nodesG 1 args
def nodesG : Nat → List E → Nat
  | n, [] => n
  | n, e :: l => if n ≤ 400 then nodesG (n + nodesN e) l else n
end
mutual
theorem nodesN_le : ∀ e : E, nodesN e ≤ nodesE e
  | .mk _ _ _ _ _ args _ => by
    rw [nodesN, nodesE]
    exact nodesG_le 1 args
theorem nodesG_le : ∀ (n : Nat) (l : List E), nodesG n l ≤ n + nodesL l
  | n, [] => by rw [nodesG, nodesL]; omega
  | n, e :: l => by
    rw [nodesG, nodesL]
    have h1 := nodesN_le e
    have h2 := nodesG_le (n + nodesN e) l
    split <;> omega
end
theorem nodesG_snoc : ∀ (l : List E) (n : Nat) (e : E), nodesG n l ≤ 400 → nodesG n (l ++ [e]) = nodesG n l + nodesN e
  | [], n, e, h => by
    simp only [nodesG, List.nil_append] at h ⊢
    rw [if_pos h]
  | x :: l, n, e, h => by
    rw [List.cons_append, nodesG, nodesG]
    rw [nodesG] at h
    split
    · rename_i h0
      rw [if_pos h0] at h
      exact nodesG_snoc l _ e h
    · rename_i h0
      rw [if_neg h0] at h
      exact absurd h h0
theorem nodesG_stop : ∀ (l r : List E) (n : Nat), 400 < nodesG n l → nodesG n (l ++ r) = nodesG n l
  | [], r, n, h => by
    simp only [nodesG] at h
    cases r with
    | nil => rfl
    | cons e r => simp only [List.nil_append, nodesG]; rw [if_neg (by omega)]
  | x :: l, r, n, h => by
    rw [List.cons_append, nodesG, nodesG]
    rw [nodesG] at h
    split
    · rename_i h0
      rw [if_pos h0] at h
      exact nodesG_stop l r _ h
    · rfl
theorem nodesL_mem : ∀ {l : List E} {e : E}, e ∈ l → nodesE e ≤ nodesL l
  | x :: l, e, h => by
    rw [nodesL]
    rcases List.mem_cons.1 h with rfl | h
    · omega
    · have := nodesL_mem h; omega
theorem nodesE_args (e : E) : nodesE e = 1 + nodesL e.args := by cases e; rfl
theorem nodesN_args (e : E) : nodesN e = nodesG 1 e.args := by cases e; rfl
theorem nodesL_len : ∀ l : List E, l.length ≤ nodesL l
  | [] => Nat.zero_le _
  | e :: l => by
    have h1 := nodesL_len l
    have h2 := nodesE_args e
    rw [nodesL, List.length_cons]
    omega
theorem nodesL_take : ∀ (l : List E) (i : Nat), nodesL (l.take i) ≤ nodesL l
  | [], i => by simp [nodesL]
  | e :: l, 0 => by simp [nodesL]
  | e :: l, i + 1 => by
    have := nodesL_take l i
    simp only [List.take_succ_cons, nodesL]
    omega
set_option maxHeartbeats 1000000 in
set_option maxRecDepth 100000 in
theorem nodes_any : ∀ (k : Nat) (e : E) (A R : Option Addr) (c d : Nat) (w : World), nodesE e < k → k ≤ 1000000 → LOk w (Lo w.heap.size) A e.args →
    Calls Tryz.prog 50 #[e.val A c R d] w fun x w' => x = .returned (.int .i64 (nodesN e : Nat)) ∧ Below w.heap.size w w' := by
  intro k
  induction k with
  | zero => intro e A R c d w h; exact absurd h (Nat.not_lt_zero _)
  | succ k ih =>
    intro e A R c d w hk hk1 hA
    have HA := Lib.hid hA
    have hl := nodesL_len e.args
    have hn := nodesE_args e
    have IH := Lib.hid ih
    clear ih hA
    unfold E.val
    go_enter Tryz.func50, Tryz.ntmps50
    go_wp2_with fail
    have B0 := Blk.new w 30 #[.int .i64 e.op, .int .i64 e.n, .int .i64 e.m, .int .i64 e.kind, .int .i64 e.lit.k, .int .i64 e.lit.n, .string e.lit.s, .slice A e.args.length c, .slice R e.rels.length d]
    have HB0 := Lib.hid B0
    clear B0
    go_loopw [3, 4] (fun nv iv wr => ∃ i : Nat, i ≤ e.args.length ∧ iv = .int .i64 i ∧ nv = .int .i64 (nodesG 1 (e.args.take i) : Nat) ∧ Hid (Below (w.alloc (.cells #[.int .i64 e.op, .int .i64 e.n, .int .i64 e.m, .int .i64 e.kind, .int .i64 e.lit.k, .int .i64 e.lit.n, .string e.lit.s, .slice A e.args.length c, .slice R e.rels.length d] 30)).heap.size (w.alloc (.cells #[.int .i64 e.op, .int .i64 e.n, .int .i64 e.m, .int .i64 e.kind, .int .i64 e.lit.k, .int .i64 e.lit.n, .string e.lit.s, .slice A e.args.length c, .slice R e.rels.length d] 30)) wr)) (fun _ iv _ => e.args.length - (intOf iv).toNat)
    case atStart => exact ⟨0, Nat.zero_le _, rfl, rfl, Lib.hid (Below.refl _ _)⟩
    case round =>
      obtain ⟨i, hi, rfl, rfl, HI⟩ := hrel
      have HW : Hid (Below w.heap.size w wr) := Lib.hid (thn (al (Below.refl _ _) _) HI.out)
      have b7 := (HB0.out.below HI.out HB0.out.lt).cell 7
      change wr.cell? ⟨w.heap.size, 7, none⟩ = some (.slice A e.args.length c) at b7
      have hg := nodesG_le 1 (e.args.take i)
      have htk : nodesL (e.args.take i) ≤ nodesL e.args := nodesL_take e.args i
      have HNA := Lib.hid (nodesN_args e)
      by_cases hlt : i < e.args.length
      · have hlti : (i : Int) < (e.args.length : Int) := by omega
        by_cases h4 : nodesG 1 (e.args.take i) ≤ 400
        · have h4i : ((nodesG 1 (e.args.take i) : Nat) : Int) ≤ 400 := by omega
          obtain ⟨b, o, rfl, hb, he⟩ := (HA.out.below HW.out HW.out.size).at_ hlt
          obtain ⟨z0, z1, z2, z3, z4, z5, z6, ⟨A', c', z7, z8⟩, R', d', z9, z10⟩ := EOk.mk_.1 he
          have y0 : wr.cell? ⟨b, o + i * 9, none⟩ = some (.int .i64 e.args[i].op) := z0
          have y1 : wr.cell? ⟨b, o + i * 9 + 1, none⟩ = some (.int .i64 e.args[i].n) := z1
          have y2 : wr.cell? ⟨b, o + i * 9 + 2, none⟩ = some (.int .i64 e.args[i].m) := z2
          have y3 : wr.cell? ⟨b, o + i * 9 + 3, none⟩ = some (.int .i64 e.args[i].kind) := z3
          have y4 : wr.cell? ⟨b, o + i * 9 + 4, none⟩ = some (.int .i64 e.args[i].lit.k) := z4
          have y5 : wr.cell? ⟨b, o + i * 9 + 5, none⟩ = some (.int .i64 e.args[i].lit.n) := z5
          have y6 : wr.cell? ⟨b, o + i * 9 + 6, none⟩ = some (.string e.args[i].lit.s) := z6
          have y7 : wr.cell? ⟨b, o + i * 9 + 7, none⟩ = some ((.slice A' e.args[i].args.length c')) := z7
          have y8 : wr.cell? ⟨b, o + i * 9 + 8, none⟩ = some ((.slice R' e.args[i].rels.length d')) := z9
          have hm := nodesL_mem (List.getElem_mem hlt)
          clear z0 z1 z2 z3 z4 z5 z6 z7 z9
          have HC := Lib.hid (IH.out e.args[i] A' R' c' d' wr (by omega) (by omega) z8)
          have hx := nodesN_le e.args[i]
          have HS := Lib.hid (nodesG_snoc (e.args.take i) 1 e.args[i] h4)
          generalize nodesG 1 (e.args.take i) = g at *
          clear he z8 z10 hg htk
          go_wp2_with fail
          refine HC.out.mono ?_
          rintro x w2 ⟨rfl, hb2⟩
          have HI2 := Lib.hid (thn HI.out hb2)
          clear hb2 y0 y1 y2 y3 y4 y5 y6 y7 y8 b7
          go_wp2_with fail
          go_roundw
          case rel => exact ⟨i + 1, by omega, by go_num, by rw [List.take_succ_eq_append_getElem hlt, HS.out]; go_num, HI2⟩
          case measure => simp [intOf]; omega
        · have h4i : ¬ ((nodesG 1 (e.args.take i) : Nat) : Int) ≤ 400 := by omega
          have HS : Hid (nodesN e = nodesG 1 (e.args.take i)) := Lib.hid (by
            rw [HNA.out]
            have := nodesG_stop (e.args.take i) (e.args.drop i) 1 (by omega)
            rw [List.take_append_drop] at this
            exact this)
          generalize nodesG 1 (e.args.take i) = g at *
          go_wp2_with fail
          go_ret
          exact ⟨by rw [HS.out]; rfl, HW.out⟩
      · have hlf : decide ((i : Int) < (e.args.length : Int)) = false := decide_eq_false (by omega)
        have HS : Hid (nodesN e = nodesG 1 (e.args.take i)) := Lib.hid (by
          rw [HNA.out, List.take_of_length_le (by omega)])
        generalize nodesG 1 (e.args.take i) = g at *
        go_wp2_with fail
        go_ret
        exact ⟨by rw [HS.out]; rfl, HW.out⟩
end Go.Proofs.YtdiehgfldndgbaaGreatDoor
namespace Go.Proofs.YtdiehgfldndgbaaGreatDoor
open Go.RowKit

def realB (k : Int) : Bool := k == 1 || k == 2 || k == 3
theorem Real_any (k : Int) (w : World) : Calls Tryz.prog 135 #[.int .i64 k] w fun e w' => e = .returned (.bool (realB k)) ∧ w = w' := by
  by_cases h1 : k = 1
  · subst h1
    go_enter Tryz.func135, Tryz.ntmps135
    go_wp2_with fail
    go_ret
    exact ⟨rfl, rfl⟩
  · by_cases h2 : k = 2
    · subst h2
      go_enter Tryz.func135, Tryz.ntmps135
      go_wp2_with fail
      go_ret
      exact ⟨rfl, rfl⟩
    · have e1 : (k == 1) = false := beq_eq_false_iff_ne.2 h1
      have e2 : (k == 2) = false := beq_eq_false_iff_ne.2 h2
      have HE : Hid (realB k = (k == 3)) := Lib.hid (by unfold realB; rw [e1, e2]; rfl)
      go_enter Tryz.func135, Tryz.ntmps135
      go_wp2_with fail
      go_ret
      exact ⟨by rw [HE.out]; rfl, rfl⟩
/-- how many arguments an operation may have -/
def manyB (op n : Int) : Bool :=
  if op == 9 || op == 11 || op == 21 || op == 22 || op == 23 then n == 1
  else if op == 19 || op == 20 || op == 25 then decide (2 ≤ n) && decide (n ≤ 16)
  else if op == 24 then decide (3 ≤ n) && (n.tmod 2 == 1) && decide (n ≤ 16)
  else decide (4 ≤ op) && decide (op ≤ 18) && n == 2
set_option maxHeartbeats 1000000 in
theorem Many_any (op : Int) (n : Nat) (w : World) (hn : n ≤ 1000000) : Calls Tryz.prog 136 #[.int .i64 op, .int .i64 n] w fun e w' => e = .returned (.bool (manyB op n)) ∧ w = w' := by
  by_cases h9 : op = 9
  · subst h9
    have HE : Hid (manyB 9 n = ((n : Int) == 1)) := Lib.hid (by simp [manyB])
    go_enter Tryz.func136, Tryz.ntmps136
    go_wp2_with fail
    go_ret
    exact ⟨by rw [HE.out]; rfl, rfl⟩
  have e9 : (op == 9) = false := beq_eq_false_iff_ne.2 h9
  clear h9
  by_cases h11 : op = 11
  · subst h11
    have HE : Hid (manyB 11 n = ((n : Int) == 1)) := Lib.hid (by simp [manyB])
    go_enter Tryz.func136, Tryz.ntmps136
    go_wp2_with fail
    go_ret
    exact ⟨by rw [HE.out]; rfl, rfl⟩
  have e11 : (op == 11) = false := beq_eq_false_iff_ne.2 h11
  clear h11
  by_cases h21 : op = 21
  · subst h21
    have HE : Hid (manyB 21 n = ((n : Int) == 1)) := Lib.hid (by simp [manyB])
    go_enter Tryz.func136, Tryz.ntmps136
    go_wp2_with fail
    go_ret
    exact ⟨by rw [HE.out]; rfl, rfl⟩
  have e21 : (op == 21) = false := beq_eq_false_iff_ne.2 h21
  clear h21
  by_cases h22 : op = 22
  · subst h22
    have HE : Hid (manyB 22 n = ((n : Int) == 1)) := Lib.hid (by simp [manyB])
    go_enter Tryz.func136, Tryz.ntmps136
    go_wp2_with fail
    go_ret
    exact ⟨by rw [HE.out]; rfl, rfl⟩
  have e22 : (op == 22) = false := beq_eq_false_iff_ne.2 h22
  clear h22
  by_cases h23 : op = 23
  · subst h23
    have HE : Hid (manyB 23 n = ((n : Int) == 1)) := Lib.hid (by simp [manyB])
    go_enter Tryz.func136, Tryz.ntmps136
    go_wp2_with fail
    go_ret
    exact ⟨by rw [HE.out]; rfl, rfl⟩
  have e23 : (op == 23) = false := beq_eq_false_iff_ne.2 h23
  clear h23
  by_cases h19 : op = 19
  · subst h19
    by_cases g : (2 : Int) ≤ (n : Int)
    · have HE : Hid (manyB 19 n = decide ((n : Int) ≤ 16)) := Lib.hid (by simp [manyB, g])
      go_enter Tryz.func136, Tryz.ntmps136
      go_wp2_with fail
      go_ret
      exact ⟨by rw [HE.out]; rfl, rfl⟩
    · have HE : Hid (manyB 19 n = false) := Lib.hid (by simp [manyB, g])
      have g2 : decide ((2 : Int) ≤ (n : Int)) = false := decide_eq_false g
      clear g
      go_enter Tryz.func136, Tryz.ntmps136
      go_wp2_with fail
      go_ret
      exact ⟨by rw [HE.out]; rfl, rfl⟩
  have e19 : (op == 19) = false := beq_eq_false_iff_ne.2 h19
  clear h19
  by_cases h20 : op = 20
  · subst h20
    by_cases g : (2 : Int) ≤ (n : Int)
    · have HE : Hid (manyB 20 n = decide ((n : Int) ≤ 16)) := Lib.hid (by simp [manyB, g])
      go_enter Tryz.func136, Tryz.ntmps136
      go_wp2_with fail
      go_ret
      exact ⟨by rw [HE.out]; rfl, rfl⟩
    · have HE : Hid (manyB 20 n = false) := Lib.hid (by simp [manyB, g])
      have g2 : decide ((2 : Int) ≤ (n : Int)) = false := decide_eq_false g
      clear g
      go_enter Tryz.func136, Tryz.ntmps136
      go_wp2_with fail
      go_ret
      exact ⟨by rw [HE.out]; rfl, rfl⟩
  have e20 : (op == 20) = false := beq_eq_false_iff_ne.2 h20
  clear h20
  by_cases h25 : op = 25
  · subst h25
    by_cases g : (2 : Int) ≤ (n : Int)
    · have HE : Hid (manyB 25 n = decide ((n : Int) ≤ 16)) := Lib.hid (by simp [manyB, g])
      go_enter Tryz.func136, Tryz.ntmps136
      go_wp2_with fail
      go_ret
      exact ⟨by rw [HE.out]; rfl, rfl⟩
    · have HE : Hid (manyB 25 n = false) := Lib.hid (by simp [manyB, g])
      have g2 : decide ((2 : Int) ≤ (n : Int)) = false := decide_eq_false g
      clear g
      go_enter Tryz.func136, Tryz.ntmps136
      go_wp2_with fail
      go_ret
      exact ⟨by rw [HE.out]; rfl, rfl⟩
  have e25 : (op == 25) = false := beq_eq_false_iff_ne.2 h25
  clear h25
  by_cases h24 : op = 24
  · subst h24
    have hn0 : (0 : Int) ≤ (n : Int) := by omega
    have hq : (n : Int).tmod 2 = (n : Int) % 2 := Int.tmod_eq_emod_of_nonneg hn0
    by_cases g : (3 : Int) ≤ (n : Int)
    · by_cases g2 : (n : Int) % 2 = 1
      · have hm : ((n : Int) % 2 == 1) = true := by rw [g2]; rfl
        have HE : Hid (manyB 24 n = decide ((n : Int) ≤ 16)) := Lib.hid (by simp [manyB, g, hq, g2])
        clear g2 hq
        go_enter Tryz.func136, Tryz.ntmps136
        go_wp2_with fail
        go_ret
        exact ⟨by rw [HE.out]; rfl, rfl⟩
      · have hm : ((n : Int) % 2 == 1) = false := beq_eq_false_iff_ne.2 g2
        have HE : Hid (manyB 24 n = false) := Lib.hid (by simp [manyB, g, hq, hm])
        clear g2 hq
        go_enter Tryz.func136, Tryz.ntmps136
        go_wp2_with fail
        go_ret
        exact ⟨by rw [HE.out]; rfl, rfl⟩
    · have HE : Hid (manyB 24 n = false) := Lib.hid (by simp [manyB, g])
      have g2 : decide ((3 : Int) ≤ (n : Int)) = false := decide_eq_false g
      clear g hq
      go_enter Tryz.func136, Tryz.ntmps136
      go_wp2_with fail
      go_ret
      exact ⟨by rw [HE.out]; rfl, rfl⟩
  have e24 : (op == 24) = false := beq_eq_false_iff_ne.2 h24
  clear h24
  by_cases g : (4 : Int) ≤ op
  · by_cases g2 : op ≤ (18 : Int)
    · have HE : Hid (manyB op n = ((n : Int) == 2)) := Lib.hid (by simp [manyB, e9, e11, e21, e22, e23, e19, e20, e25, e24, g, g2])
      go_enter Tryz.func136, Tryz.ntmps136
      go_wp2_with fail
      go_ret
      exact ⟨by rw [HE.out]; rfl, rfl⟩
    · have HE : Hid (manyB op n = false) := Lib.hid (by simp [manyB, e9, e11, e21, e22, e23, e19, e20, e25, e24, g2])
      have g3 : decide (op ≤ (18 : Int)) = false := decide_eq_false g2
      clear g2
      go_enter Tryz.func136, Tryz.ntmps136
      go_wp2_with fail
      go_ret
      exact ⟨by rw [HE.out]; rfl, rfl⟩
  · have HE : Hid (manyB op n = false) := Lib.hid (by simp [manyB, e9, e11, e21, e22, e23, e19, e20, e25, e24, g])
    have g3 : decide ((4 : Int) ≤ op) = false := decide_eq_false g
    clear g
    go_enter Tryz.func136, Tryz.ntmps136
    go_wp2_with fail
    go_ret
    exact ⟨by rw [HE.out]; rfl, rfl⟩
end Go.Proofs.YtdiehgfldndgbaaGreatDoor
namespace Go.Proofs.YtdiehgfldndgbaaGreatDoor
open Go.RowKit

/-- the zero value -/
def V.isZ (v : V) : Bool := v.k == 0 && v.n == 0 && v.s.data.toList == []
/-- a node has the fields of its operation, whatever its arguments are -/
def nodeB (op n m kind : Int) (lit : V) (args rels : Nat) : Bool :=
  if op = 3 then n == 0 && m == 0 && realB kind && okVal lit.k lit.n lit.s.data.toList && (lit.k == 0 || lit.k == kind) && args == 0 && rels == 0
  else (if op = 1 then decide (0 ≤ n) && m == 0 else if op = 2 then decide (1 ≤ n) && decide (0 ≤ m) else n == 0 && m == 0) &&
    (kind == 0 && lit.isZ && rels == 0 && (if op = 1 ∨ op = 2 then args == 0 else decide (4 ≤ op) && decide (op ≤ 25) && manyB op args))
def E.node (e : E) : Bool := nodeB e.op e.n e.m e.kind e.lit e.args.length e.rels.length
mutual
/-- all nodes have their fields, at most so deep -/
def shapedE : Nat → E → Bool
  | 0, _ => false
  | d + 1, .mk op n m k lit args rels => (E.mk op n m k lit args rels).node && shapedL d args
def shapedL : Nat → List E → Bool
  | _, [] => true
  | d, e :: l => shapedE d e && shapedL d l
end
theorem shapedE_zero (e : E) : shapedE 0 e = false := by cases e; rfl
theorem shapedE_succ (d : Nat) (e : E) : shapedE (d + 1) e = (e.node && shapedL d e.args) := by cases e; rw [shapedE]; rfl
theorem shapedL_take (d : Nat) : ∀ (l : List E) (k : Nat) (h : k < l.length), shapedL d (l.take k) = true → shapedL d (l.take (k + 1)) = shapedE d l[k]
  | e :: l, 0, _, _ => by simp [shapedL]
  | e :: l, k + 1, h, hk => by
    simp only [List.take_succ_cons, shapedL, Bool.and_eq_true] at hk ⊢
    rw [hk.1, Bool.true_and]
    exact shapedL_take d l k (by simpa using h) hk.2
theorem shapedL_stop (d : Nat) : ∀ (l : List E) (k : Nat) (h : k < l.length), shapedE d l[k] = false → shapedL d l = false
  | e :: l, 0, _, hk => by
    simp only [List.getElem_cons_zero] at hk
    rw [shapedL, hk]; rfl
  | e :: l, k + 1, h, hk => by
    rw [shapedL, shapedL_stop d l k (by simpa using h) (by simpa using hk), Bool.and_false]
/-- the form of a plain expression -/
def formE (e : E) : Bool := shapedE 24 e && decide (nodesE e ≤ 400)
theorem nodesN_iff (e : E) : (nodesN e ≤ 400 ↔ nodesE e ≤ 400) ∧ (nodesN e ≤ 400 → nodesN e = nodesE e) := by
  have key : ∀ (f : Nat), (∀ e : E, nodesE e < f → ((nodesN e ≤ 400 ↔ nodesE e ≤ 400) ∧ (nodesN e ≤ 400 → nodesN e = nodesE e))) ∧ ∀ (l : List E) (n : Nat), nodesL l < f → ((nodesG n l ≤ 400 ↔ n + nodesL l ≤ 400) ∧ (nodesG n l ≤ 400 → nodesG n l = n + nodesL l)) := by
    intro f
    induction f with
    | zero => exact ⟨fun e h => absurd h (Nat.not_lt_zero _), fun l n h => absurd h (Nat.not_lt_zero _)⟩
    | succ f ih =>
      have hE : ∀ e : E, nodesE e < f + 1 → ((nodesN e ≤ 400 ↔ nodesE e ≤ 400) ∧ (nodesN e ≤ 400 → nodesN e = nodesE e)) := by
        intro e h
        rw [nodesE_args] at h ⊢
        rw [nodesN_args]
        exact ih.2 e.args 1 (by omega)
      refine ⟨hE, fun l => ?_⟩
      induction l with
      | nil => intro n _; simp [nodesG, nodesL]
      | cons e l ihl =>
        intro n h
        have hp : 0 < nodesE e := by rw [nodesE_args]; omega
        rw [nodesL] at h ⊢
        rw [nodesG]
        have h1 := hE e (by omega)
        by_cases hn : n ≤ 400
        · rw [if_pos hn]
          have h2 := ihl (n + nodesN e) (by omega)
          by_cases he : nodesN e ≤ 400
          · rw [h1.2 he] at h2 ⊢
            refine ⟨by rw [h2.1]; omega, fun h3 => by rw [h2.2 h3]; omega⟩
          · have h4 : ¬ nodesE e ≤ 400 := fun h5 => he (h1.1.2 h5)
            have h6 : ¬ nodesG (n + nodesN e) l ≤ 400 := fun h7 => by
              have := h2.1.1 h7; omega
            exact ⟨⟨fun h7 => absurd h7 h6, fun h7 => by omega⟩, fun h7 => absurd h7 h6⟩
        · rw [if_neg hn]
          exact ⟨⟨fun h7 => absurd h7 hn, fun h7 => by omega⟩, fun h7 => absurd h7 hn⟩
  exact (key (nodesE e + 1)).1 e (by omega)
mutual
/-- equal data, but for what relations are -/
def sameE : E → E → Bool
  | .mk op n m k lit args rels, .mk op' n' m' k' lit' args' rels' =>
    op == op' && n == n' && m == m' && k == k' && (lit.k == lit'.k && lit.n == lit'.n && lit.s.data.toList == lit'.s.data.toList) && args.length == args'.length && rels.length == rels'.length && sameL args args'
def sameL : List E → List E → Bool
  | e :: l, e' :: l' => sameE e e' && sameL l l'
  | _, _ => true
end
end Go.Proofs.YtdiehgfldndgbaaGreatDoor
namespace Go.Proofs.YtdiehgfldndgbaaGreatDoor
open Go.RowKit

/-- the word of a kind -/
def kwB (k : Int) : ByteArray := if k = 1 then ⟨#[105, 110, 116]⟩ else if k = 2 then ⟨#[98, 111, 111, 108]⟩ else ⟨#[116, 101, 120, 116]⟩
end Go.Proofs.YtdiehgfldndgbaaGreatDoor
namespace Go.Proofs.YtdiehgfldndgbaaGreatDoor
open Go.RowKit

/-- the columns of an expression, rising, each once -/
def putN : List Int → Int → List Int
  | [], n => [n]
  | x :: l, n => if n < x then n :: x :: l else if n = x then x :: l else x :: putN l n
mutual
def clmE : E → List Int
  | .mk op n _ _ _ args _ => if op = 1 then [n] else clmL [] args
def clmL : List Int → List E → List Int
  | acc, [] => acc
  | acc, e :: l => clmL ((clmE e).foldl putN acc) l
end
mutual
/-- the numbers of all columns, from left to right -/
def allE : E → List Int
  | .mk op n _ _ _ args _ => (if op = 1 then [n] else []) ++ allL args
def allL : List E → List Int
  | [] => []
  | e :: l => allE e ++ allL l
end
theorem clmL_take (l : List E) : ∀ (acc : List Int) (k : Nat) (h : k < l.length), clmL acc (l.take (k + 1)) = (clmE l[k]).foldl putN (clmL acc (l.take k)) := by
  induction l with
  | nil => intro acc k h; cases h
  | cons e l ih =>
    intro acc k h
    cases k with
    | zero => simp [clmL]
    | succ k =>
      simp only [List.take_succ_cons, clmL, List.getElem_cons_succ]
      exact ih _ k (by simpa using h)
theorem putN_mem (x n : Int) : ∀ l : List Int, x ∈ putN l n ↔ x ∈ l ∨ x = n
  | [] => by simp [putN]
  | y :: l => by
    rw [putN]
    split
    · simp only [List.mem_cons]; constructor
      · rintro (h | h | h) <;> simp [h]
      · rintro ((h | h) | h) <;> simp [h]
    · split
      · rename_i h1 h2
        subst h2
        simp only [List.mem_cons]; constructor
        · intro h; exact Or.inl h
        · rintro (h | h)
          · exact h
          · exact Or.inl h
      · simp only [List.mem_cons, putN_mem x n l]; constructor
        · rintro (h | h | h) <;> simp [h]
        · rintro ((h | h) | h) <;> simp [h]
theorem putN_rises (n : Int) : ∀ l : List Int, l.Pairwise (· < ·) → (putN l n).Pairwise (· < ·)
  | [], _ => by simp [putN]
  | y :: l, h => by
    rw [List.pairwise_cons] at h
    rw [putN]
    split
    · rename_i h1
      refine List.pairwise_cons.2 ⟨fun z hz => ?_, List.pairwise_cons.2 h⟩
      rcases List.mem_cons.1 hz with rfl | hz
      · exact h1
      · have := h.1 z hz; omega
    · split
      · exact List.pairwise_cons.2 h
      · refine List.pairwise_cons.2 ⟨fun z hz => ?_, putN_rises n l h.2⟩
        rcases (putN_mem z n l).1 hz with hz | rfl
        · exact h.1 z hz
        · omega
theorem fold_mem (x : Int) : ∀ (r l : List Int), x ∈ r.foldl putN l ↔ x ∈ l ∨ x ∈ r
  | [], l => by simp
  | n :: r, l => by
    rw [List.foldl_cons, fold_mem x r, putN_mem, List.mem_cons]
    constructor
    · rintro ((h | h) | h) <;> simp [h]
    · rintro (h | h | h) <;> simp [h]
theorem fold_rises : ∀ (r l : List Int), l.Pairwise (· < ·) → (r.foldl putN l).Pairwise (· < ·)
  | [], _, h => h
  | n :: r, l, h => fold_rises r _ (putN_rises n l h)
mutual
/-- columns have no arguments, all the way down -/
def leafyE : E → Bool
  | .mk op _ _ _ _ args _ => (op != 1 || args.isEmpty) && leafyL args
def leafyL : List E → Bool
  | [] => true
  | e :: l => leafyE e && leafyL l
end
mutual
theorem clmE_spec : ∀ e : E, leafyE e = true → (clmE e).Pairwise (· < ·) ∧ ∀ x, x ∈ clmE e ↔ x ∈ allE e
  | .mk op n m k lit args rels, h => by
    rw [leafyE] at h
    simp only [Bool.and_eq_true, Bool.or_eq_true] at h
    rw [clmE, allE]
    by_cases h1 : op = 1
    · have h0 : args = [] := by
        rcases h.1 with h2 | h2
        · simp [h1] at h2
        · simpa using h2
      subst h0
      simp [h1, allL]
    · rw [if_neg h1, if_neg h1]
      have := clmL_spec args [] h.2 List.Pairwise.nil
      simpa using this
theorem clmL_spec : ∀ (l : List E) (acc : List Int), leafyL l = true → acc.Pairwise (· < ·) → (clmL acc l).Pairwise (· < ·) ∧ ∀ x, x ∈ clmL acc l ↔ x ∈ acc ∨ x ∈ allL l
  | [], acc, _, h => by simp [clmL, allL, h]
  | e :: l, acc, hl, h => by
    rw [leafyL] at hl
    simp only [Bool.and_eq_true] at hl
    rw [clmL]
    have h1 := clmE_spec e hl.1
    have h2 := clmL_spec l ((clmE e).foldl putN acc) hl.2 (fold_rises _ _ h)
    refine ⟨h2.1, fun x => ?_⟩
    rw [h2.2, fold_mem, h1.2, allL, List.mem_append, or_assoc]
end
/-- rising lists with the same members are one -/
theorem rises_only : ∀ {a b : List Int}, a.Pairwise (· < ·) → b.Pairwise (· < ·) → (∀ x, x ∈ a ↔ x ∈ b) → a = b
  | [], [], _, _, _ => rfl
  | [], y :: b, _, _, h => by have := (h y).2 (List.mem_cons_self ..); cases this
  | x :: a, [], _, _, h => by have := (h x).1 (List.mem_cons_self ..); cases this
  | x :: a, y :: b, ha, hb, h => by
    rw [List.pairwise_cons] at ha hb
    have e : x = y := by
      have h1 := (h x).1 (List.mem_cons_self ..)
      have h2 := (h y).2 (List.mem_cons_self ..)
      rcases List.mem_cons.1 h1 with h1 | h1
      · exact h1
      · rcases List.mem_cons.1 h2 with h2 | h2
        · exact h2.symm
        · have := ha.1 y h2; have := hb.1 x h1; omega
    subst e
    congr 1
    refine rises_only ha.2 hb.2 fun z => ?_
    have h1 := h z
    simp only [List.mem_cons] at h1
    constructor
    · intro hz
      rcases h1.1 (Or.inr hz) with e | e
      · have := ha.1 z hz; omega
      · exact e
    · intro hz
      rcases h1.2 (Or.inr hz) with e | e
      · have := hb.1 z hz; omega
      · exact e
/-- the words of the operations with arguments -/
def wordsT : List (List UInt8) := [[97, 100, 100], [115, 117, 98], [109, 117, 108], [100, 105, 118], [109, 111, 100], [110, 101, 103], [99, 111, 110, 99, 97, 116], [108, 101, 110, 103, 116, 104], [101, 113], [110, 101], [108, 116], [108, 101], [103, 116], [103, 101], [115, 97, 109, 101], [97, 110, 100], [111, 114], [110, 111, 116], [105, 115, 110, 117, 108, 108], [105, 115, 116, 114, 117, 101], [99, 97, 115, 101], [99, 111, 97, 108, 101, 115, 99, 101]]
def wordL (op : Int) : List UInt8 := (wordsT[(op - 4).toNat]?).getD []
/-- strings, with a comma and a blank between -/
def joinS : List (List UInt8) → List UInt8
  | [] => []
  | [x] => x
  | x :: y :: l => x ++ ([44, 32] ++ joinS (y :: l))
theorem joinS_len : ∀ l : List (List UInt8), (joinS l).length ≤ (l.map fun x => x.length + 2).sum
  | [] => by simp [joinS]
  | [x] => by simp [joinS]
  | x :: y :: l => by
    have := joinS_len (y :: l)
    rw [joinS, List.map_cons, List.sum_cons, List.length_append, List.length_append]
    simp only [List.length_cons, List.length_nil]
    omega
theorem wordL_len (op : Int) : (wordL op).length ≤ 8 := by
  unfold wordL
  by_cases h : (op - 4).toNat < wordsT.length
  · have : ∀ i (h : i < wordsT.length), ((wordsT[i]?).getD []).length ≤ 8 := by decide
    exact this _ h
  · rw [List.getElem?_eq_none (by omega)]; simp
/-- a column: its kind, whether it may be null -/
abbrev Co := Int × Bool
def allK (l : List Co) (k : Int) : Bool := l.all fun c => c.1 == k
def anyN (l : List Co) : Bool := l.any Prod.snd
def fstK (l : List Co) : Int := (l.head?.map Prod.fst).getD 0
/-- the conditions of a case -/
def conds {α : Type} : List α → List α
  | a :: _ :: l => a :: conds l
  | _ => []
/-- its values -/
def vals {α : Type} : List α → List α
  | _ :: b :: l => b :: vals l
  | l => l
/-- the kind of a node by those of its arguments -/
def combE (op kind litk : Int) (l : List Co) : Option Co :=
  if op = 3 then some ⟨kind, litk == 0⟩
  else if op = 4 ∨ op = 5 ∨ op = 6 ∨ op = 9 then (if allK l 1 then some ⟨1, anyN l⟩ else none)
  else if op = 7 ∨ op = 8 then (if allK l 1 then some ⟨1, true⟩ else none)
  else if op = 10 then (if allK l 3 then some ⟨3, anyN l⟩ else none)
  else if op = 11 then (if allK l 3 then some ⟨1, anyN l⟩ else none)
  else if 12 ≤ op ∧ op ≤ 17 then (if allK l (fstK l) then some ⟨2, anyN l⟩ else none)
  else if op = 18 then (if allK l (fstK l) then some ⟨2, false⟩ else none)
  else if op = 19 ∨ op = 20 ∨ op = 21 then (if allK l 2 then some ⟨2, anyN l⟩ else none)
  else if op = 22 then some ⟨2, false⟩
  else if op = 23 then (if allK l 2 then some ⟨2, false⟩ else none)
  else if op = 24 then (if allK (conds l) 2 && allK (vals l) (fstK (vals l)) then some ⟨fstK (vals l), anyN (vals l)⟩ else none)
  else (if allK l (fstK l) then some ⟨fstK l, l.all Prod.snd⟩ else none)
mutual
/-- the kind of an expression on columns -/
def kindE (cols : List Co) : E → Option Co
  | .mk op n _ k lit args _ => if op = 2 then none else if op = 1 then (if n < 0 then none else cols[n.toNat]?) else
    match kindL cols args with
    | none => none
    | some l => combE op k lit.k l
def kindL (cols : List Co) : List E → Option (List Co)
  | [] => some []
  | e :: l => match kindE cols e with
    | none => none
    | some c => match kindL cols l with
      | none => none
      | some r => some (c :: r)
end
theorem kindL_take (cols : List Co) : ∀ (l : List E) (k : Nat) (h : k < l.length) (r : List Co) (c : Co), kindL cols (l.take k) = some r → kindE cols l[k] = some c → kindL cols (l.take (k + 1)) = some (r ++ [c])
  | e :: l, 0, _, r, c, hr, hc => by
    simp [kindL] at hr hc ⊢
    subst hr
    rw [hc]; rfl
  | e :: l, k + 1, h, r, c, hr, hc => by
    simp only [List.take_succ_cons, kindL, List.getElem_cons_succ] at hr hc ⊢
    cases he : kindE cols e with
    | none => rw [he] at hr; cases hr
    | some c0 =>
      rw [he] at hr
      cases hl : kindL cols (l.take k) with
      | none => simp only [hl] at hr; cases hr
      | some r0 =>
        simp only [hl] at hr
        cases hr
        rw [kindL_take cols l k (by simpa using h) r0 c hl hc]
        rfl
theorem kindL_stop (cols : List Co) : ∀ (l : List E) (k : Nat) (h : k < l.length), kindE cols l[k] = none → kindL cols l = none
  | e :: l, 0, _, hc => by
    simp only [List.getElem_cons_zero] at hc
    rw [kindL, hc]
  | e :: l, k + 1, h, hc => by
    simp only [List.getElem_cons_succ] at hc
    rw [kindL, kindL_stop cols l k (by simpa using h) hc]
    cases kindE cols e <;> rfl
theorem kindL_len (cols : List Co) : ∀ (l : List E) (r : List Co), kindL cols l = some r → r.length = l.length
  | [], r, h => by simp [kindL] at h; subst h; rfl
  | e :: l, r, h => by
    rw [kindL] at h
    cases he : kindE cols e with
    | none => rw [he] at h; cases h
    | some c0 =>
      rw [he] at h
      cases hl : kindL cols l with
      | none => simp only [hl] at h; cases h
      | some r0 =>
        simp only [hl] at h
        cases h
        simp [kindL_len cols l r0 hl]
theorem kindE_of (cols : List Co) (e : E) : kindE cols e = if e.op = 2 then none else if e.op = 1 then (if e.n < 0 then none else cols[e.n.toNat]?) else match kindL cols e.args with
    | none => none
    | some l => combE e.op e.kind e.lit.k l := by cases e; rw [kindE]; rfl
/-- the kind of the arguments of an operation (0: whichever they have in common), and its own (0: that one) -/
def ofK (op : Int) : Int := if op = 10 ∨ op = 11 then 3 else if op = 19 ∨ op = 20 ∨ op = 21 ∨ op = 23 then 2 else if 4 ≤ op ∧ op ≤ 9 then 1 else 0
def isK (op : Int) : Int := if op = 10 then 3 else if op = 24 ∨ op = 25 then 0 else if 12 ≤ op then 2 else 1
def mayN (op : Int) (l : List Co) : Bool := if op = 7 ∨ op = 8 then true else if op = 18 ∨ op = 22 ∨ op = 23 then false else if op = 25 then !(l.any fun c => !c.2) else l.any Prod.snd
def kindP2 (op : Int) (l : List Co) : Option Co :=
  if allK l (if ofK op = 0 then fstK l else ofK op) then some ⟨if isK op = 0 then (if ofK op = 0 then fstK l else ofK op) else isK op, mayN op l⟩ else none
/-- the kind of a node, as the program finds it -/
def kindP (op : Int) (l : List Co) : Option Co := if op = 24 then (if allK (conds l) 2 then kindP2 op (vals l) else none) else kindP2 op l
theorem kindP_eq (op k litk : Int) (l : List Co) (h4 : 4 ≤ op) (h25 : op ≤ 25) (h22 : op = 22 → l.length = 1) : kindP op l = combE op k litk l := by
  have : op = 4 ∨ op = 5 ∨ op = 6 ∨ op = 7 ∨ op = 8 ∨ op = 9 ∨ op = 10 ∨ op = 11 ∨ op = 12 ∨ op = 13 ∨ op = 14 ∨ op = 15 ∨ op = 16 ∨ op = 17 ∨ op = 18 ∨ op = 19 ∨ op = 20 ∨ op = 21 ∨ op = 22 ∨ op = 23 ∨ op = 24 ∨ op = 25 := by omega
  rcases this with rfl | rfl | rfl | rfl | rfl | rfl | rfl | rfl | rfl | rfl | rfl | rfl | rfl | rfl | rfl | rfl | rfl | rfl | rfl | rfl | rfl | rfl
  case inr.inr.inr.inr.inr.inr.inr.inr.inr.inr.inr.inr.inr.inr.inr.inr.inr.inr.inl =>
    obtain ⟨a, rfl⟩ := List.length_eq_one_iff.1 (h22 rfl)
    simp [kindP, kindP2, combE, ofK, isK, mayN, allK, fstK]
  case inr.inr.inr.inr.inr.inr.inr.inr.inr.inr.inr.inr.inr.inr.inr.inr.inr.inr.inr.inr.inl =>
    simp only [kindP, kindP2, combE, ofK, isK, mayN, anyN]
    cases allK (conds l) 2 <;> simp
  case inr.inr.inr.inr.inr.inr.inr.inr.inr.inr.inr.inr.inr.inr.inr.inr.inr.inr.inr.inr.inr =>
    have e : (!(l.any fun c => !c.2)) = l.all Prod.snd := by
      induction l with
      | nil => rfl
      | cons c l ih => simp_all
    simp only [kindP, kindP2, combE, ofK, isK, mayN, e]
    simp
  all_goals simp [kindP, kindP2, combE, ofK, isK, mayN, anyN]
/-- the word of an operation -/
def wordB (op : Int) : ByteArray := ⟨(wordL op).toArray⟩
/-- how many arguments an operation has, at least and at most -/
def leastM (m : Nat) : Int := if m = 9 ∨ m = 11 ∨ m = 21 ∨ m = 22 ∨ m = 23 then 1 else if m = 24 then 3 else 2
def mostM (m : Nat) : Int := if m = 9 ∨ m = 11 ∨ m = 21 ∨ m = 22 ∨ m = 23 then 1 else if m = 19 ∨ m = 20 ∨ m = 24 ∨ m = 25 then 16 else 2
theorem manyB_eq (m n : Nat) (h4 : 4 ≤ m) (h25 : m ≤ 25) : manyB m n = (!((m : Int) == 24 && (n : Int) % 2 == 0) && (decide (leastM m ≤ (n : Int)) && decide ((n : Int) ≤ mostM m))) := by
  have : m = 4 ∨ m = 5 ∨ m = 6 ∨ m = 7 ∨ m = 8 ∨ m = 9 ∨ m = 10 ∨ m = 11 ∨ m = 12 ∨ m = 13 ∨ m = 14 ∨ m = 15 ∨ m = 16 ∨ m = 17 ∨ m = 18 ∨ m = 19 ∨ m = 20 ∨ m = 21 ∨ m = 22 ∨ m = 23 ∨ m = 24 ∨ m = 25 := by omega
  rcases this with rfl | rfl | rfl | rfl | rfl | rfl | rfl | rfl | rfl | rfl | rfl | rfl | rfl | rfl | rfl | rfl | rfl | rfl | rfl | rfl | rfl | rfl <;> (rw [Bool.eq_iff_iff]; simp [manyB, leastM, mostM]) <;> (try rw [Int.tmod_eq_emod_of_nonneg (by omega)]) <;> omega
end Go.Proofs.YtdiehgfldndgbaaGreatDoor
namespace Go.Proofs.YtdiehgfldndgbaaGreatDoor
open Go.RowKit

structure GS (w : World) : Prop where
  shp : ∀ m : Nat, 4 ≤ m → m ≤ 25 → w.cell? ⟨0, m * 5, none⟩ = some (.string (wordB m)) ∧ w.cell? ⟨0, m * 5 + 1, none⟩ = some (.int .i64 (leastM m)) ∧ w.cell? ⟨0, m * 5 + 2, none⟩ = some (.int .i64 (mostM m)) ∧
    w.cell? ⟨0, m * 5 + 3, none⟩ = some (.int .i64 (ofK m)) ∧ w.cell? ⟨0, m * 5 + 4, none⟩ = some (.int .i64 (isK m))
  knd : ∀ k : Nat, 1 ≤ k → k ≤ 3 → w.cell? ⟨1, k, none⟩ = some (.string (kwB k))
  lo : 2 ≤ w.heap.size
theorem GS.below {w w' : World} {B : Nat} (h : GS w) (hb : Below B w w') (hB : 2 ≤ B) : GS w' where
  shp := fun m h4 h25 => by
    have k : ∀ o, w'.cell? ⟨0, o, none⟩ = w.cell? ⟨0, o, none⟩ := fun o => hb.cell (p := ⟨0, o, none⟩) (show 0 < B by omega)
    rw [k, k, k, k, k]
    exact h.shp m h4 h25
  knd := fun n h1 h3 => (hb.cell (p := ⟨1, n, none⟩) (show 1 < B by omega)).trans (h.knd n h1 h3)
  lo := Nat.le_trans h.lo hb.size
theorem GS.thn {w w' : World} (h : GS w) (hb : Below w.heap.size w w') : GS w' := h.below hb h.lo
end Go.Proofs.YtdiehgfldndgbaaGreatDoor
namespace Go.Proofs.YtdiehgfldndgbaaGreatDoor
open Go.RowKit Go.Deep

/-- an expression as a value holds it: where its lists lie -/
structure HE where
  e : E
  A : Option Addr
  c : Nat
  R : Option Addr
  d : Nat
def HE.cells (h : HE) : List Value := [.int .i64 h.e.op, .int .i64 h.e.n, .int .i64 h.e.m, .int .i64 h.e.kind, .int .i64 h.e.lit.k, .int .i64 h.e.lit.n, .string h.e.lit.s, .slice h.A h.e.args.length h.c, .slice h.R h.e.rels.length h.d]
def HE.val (h : HE) : Value := h.e.val h.A h.c h.R h.d
/-- its lists are read, in blocks of P -/
def HE.ok (w : World) (P : Nat → Prop) (h : HE) : Prop := LOk w P h.A h.e.args ∧ ROk w P h.R h.e.rels
theorem HE.ok.kept {w w' : World} {P P' : Nat → Prop} {h : HE} (k : h.ok w P) (hw : ∀ b, P b → w'.heap[b]? = w.heap[b]?) (hP : ∀ b, P b → P' b) : h.ok w' P' := ⟨k.1.kept hw hP, k.2.kept hw hP⟩
def hcells (l : List HE) : List Value := l.flatMap HE.cells
theorem hcells_len : ∀ l : List HE, (hcells l).length = l.length * 9
  | [] => rfl
  | h :: l => by
    have := hcells_len l
    unfold hcells at this ⊢
    rw [List.flatMap_cons, List.length_append, this]
    simp [HE.cells]; omega
theorem hcells_at : ∀ (l : List HE) (i j : Nat) (h : HE), l[i]? = some h → j < 9 → (hcells l)[i * 9 + j]? = h.cells[j]?
  | [], i, j, v, h, _ => by simp at h
  | x :: l, 0, j, v, h, hj => by
    simp at h; subst h
    unfold hcells
    rw [List.flatMap_cons, List.getElem?_append_left (by simp [HE.cells]; omega)]
    simp
  | x :: l, i + 1, j, v, h, hj => by
    have ih := hcells_at l i j v (by simpa using h) hj
    unfold hcells at ih ⊢
    rw [List.flatMap_cons, List.getElem?_append_right (by simp [HE.cells]; omega)]
    have e : (i + 1) * 9 + j - x.cells.length = i * 9 + j := by simp [HE.cells]; omega
    rw [e, ih]
theorem hcells_one (l : List HE) : ∀ u ∈ hcells l, u.oneCell' = true := fun u hu => by
  unfold hcells at hu
  rw [List.mem_flatMap] at hu
  obtain ⟨v, _, hv⟩ := hu
  simp [HE.cells] at hv
  rcases hv with rfl | rfl | rfl | rfl | rfl | rfl | rfl | rfl | rfl <;> rfl
theorem hcells_append (l r : List HE) : hcells (l ++ r) = hcells l ++ hcells r := by simp [hcells]
theorem HE.reads {w : World} {P : Nat → Prop} {h : HE} (k : h.ok w P) : EOk w P h.e (fun j => h.cells[j]?) := EOk.mk_.2 ⟨rfl, rfl, rfl, rfl, rfl, rfl, rfl, ⟨_, _, rfl, k.1⟩, _, _, rfl, k.2⟩
theorem EOk.ext {w : World} {P : Nat → Prop} {e : E} {f g : Nat → Option Value} (h : EOk w P e f) (hg : ∀ j, j < 9 → g j = f j) : EOk w P e g := by
  obtain ⟨z0, z1, z2, z3, z4, z5, z6, ⟨A, c, z7, z8⟩, R, d, z9, z10⟩ := EOk.mk_.1 h
  exact EOk.mk_.2 ⟨(hg 0 (by decide)).trans z0, (hg 1 (by decide)).trans z1, (hg 2 (by decide)).trans z2, (hg 3 (by decide)).trans z3, (hg 4 (by decide)).trans z4, (hg 5 (by decide)).trans z5, (hg 6 (by decide)).trans z6, ⟨A, c, (hg 7 (by decide)).trans z7, z8⟩, R, d, (hg 8 (by decide)).trans z9, z10⟩
/-- one expression in a block of its own, as the append's source -/
theorem Reads.he {w : World} {g B : Nat} {T : TypeId} {h : HE} (k : Blk w g T h.cells.toArray) (hg : g < B) : Reads w B 9 (some ⟨g, 0, none⟩) 1 (hcells [h]) :=
  ⟨rfl, fun _ => ⟨_, rfl, hg, fun j x hj => by
    rw [addN, Nat.zero_add, k.cell j]
    have e : hcells [h] = h.cells := by unfold hcells; simp
    rw [e] at hj
    rw [← hj]
    simp⟩⟩
/-- a row of the call's own reads as a list of expressions -/
theorem LOk.own {w : World} {base : Nat} {T : TypeId} {v : Value} {l : List HE} {P : Nat → Prop} (h : w.ownsRow base T 9 v l.length (hcells l)) (hP : ∀ x ∈ l, x.ok w P) (hb : ∀ g, v.ownBlock = some g → P g) :
    ∃ (A : Option Addr) (c : Nat), v = .slice A l.length c ∧ LOk w P A (l.map HE.e) := by
  rcases h.2 with ⟨rfl, h0⟩ | ⟨g, cap, cur, rfl, hbg, hh, hnc, hcm, hcs, htk⟩
  · have e : l = [] := List.eq_nil_of_length_eq_zero h0
    subst e
    exact ⟨none, 0, rfl, LOk.nil_⟩
  · refine ⟨_, cap, rfl, LOk.of (hb g rfl) fun i hi => ?_⟩
    rw [List.length_map] at hi
    simp only [List.getElem_map]
    refine (HE.reads (hP l[i] (List.getElem_mem hi))).ext fun j hj => ?_
    show w.cell? ⟨g, 0 + i * 9 + j, none⟩ = _
    rw [Nat.zero_add, cell_of_row w g (i * 9 + j) cur T (0, 0) hh, ← hcells_at l i j l[i] (List.getElem?_eq_getElem hi) hj, ← htk, List.getElem?_take, if_pos (by omega)]
    simp
end Go.Proofs.YtdiehgfldndgbaaGreatDoor
namespace Go.Proofs.YtdiehgfldndgbaaGreatDoor
open Go.RowKit

/-- nine stores into a block -/
abbrev set9 (w : World) (g : Nat) (a0 a1 a2 a3 a4 a5 a6 a7 a8 : Value) : World :=
  ((((((((w.setCell ⟨g, 0, none⟩ a0).setCell ⟨g, 1, none⟩ a1).setCell ⟨g, 2, none⟩ a2).setCell ⟨g, 3, none⟩ a3).setCell ⟨g, 4, none⟩ a4).setCell ⟨g, 5, none⟩ a5).setCell ⟨g, 6, none⟩ a6).setCell ⟨g, 7, none⟩ a7).setCell ⟨g, 8, none⟩ a8
theorem Blk.set9_ {w : World} {g : Nat} {t : TypeId} {b0 b1 b2 b3 b4 b5 b6 b7 b8 : Value} (h : Blk w g t #[b0, b1, b2, b3, b4, b5, b6, b7, b8]) (a0 a1 a2 a3 a4 a5 a6 a7 a8 : Value) :
    Blk (set9 w g a0 a1 a2 a3 a4 a5 a6 a7 a8) g t #[a0, a1, a2, a3, a4, a5, a6, a7, a8] := by
  have h0 : Blk (w.setCell ⟨g, 0, none⟩ a0) g t #[a0, b1, b2, b3, b4, b5, b6, b7, b8] := h.set_ 0 a0
  have h1 : Blk ((w.setCell ⟨g, 0, none⟩ a0).setCell ⟨g, 1, none⟩ a1) g t #[a0, a1, b2, b3, b4, b5, b6, b7, b8] := h0.set_ 1 a1
  have h2 : Blk (((w.setCell ⟨g, 0, none⟩ a0).setCell ⟨g, 1, none⟩ a1).setCell ⟨g, 2, none⟩ a2) g t #[a0, a1, a2, b3, b4, b5, b6, b7, b8] := h1.set_ 2 a2
  have h3 : Blk ((((w.setCell ⟨g, 0, none⟩ a0).setCell ⟨g, 1, none⟩ a1).setCell ⟨g, 2, none⟩ a2).setCell ⟨g, 3, none⟩ a3) g t #[a0, a1, a2, a3, b4, b5, b6, b7, b8] := h2.set_ 3 a3
  have h4 : Blk (((((w.setCell ⟨g, 0, none⟩ a0).setCell ⟨g, 1, none⟩ a1).setCell ⟨g, 2, none⟩ a2).setCell ⟨g, 3, none⟩ a3).setCell ⟨g, 4, none⟩ a4) g t #[a0, a1, a2, a3, a4, b5, b6, b7, b8] := h3.set_ 4 a4
  have h5 : Blk ((((((w.setCell ⟨g, 0, none⟩ a0).setCell ⟨g, 1, none⟩ a1).setCell ⟨g, 2, none⟩ a2).setCell ⟨g, 3, none⟩ a3).setCell ⟨g, 4, none⟩ a4).setCell ⟨g, 5, none⟩ a5) g t #[a0, a1, a2, a3, a4, a5, b6, b7, b8] := h4.set_ 5 a5
  have h6 : Blk (((((((w.setCell ⟨g, 0, none⟩ a0).setCell ⟨g, 1, none⟩ a1).setCell ⟨g, 2, none⟩ a2).setCell ⟨g, 3, none⟩ a3).setCell ⟨g, 4, none⟩ a4).setCell ⟨g, 5, none⟩ a5).setCell ⟨g, 6, none⟩ a6) g t #[a0, a1, a2, a3, a4, a5, a6, b7, b8] := h5.set_ 6 a6
  have h7 : Blk ((((((((w.setCell ⟨g, 0, none⟩ a0).setCell ⟨g, 1, none⟩ a1).setCell ⟨g, 2, none⟩ a2).setCell ⟨g, 3, none⟩ a3).setCell ⟨g, 4, none⟩ a4).setCell ⟨g, 5, none⟩ a5).setCell ⟨g, 6, none⟩ a6).setCell ⟨g, 7, none⟩ a7) g t #[a0, a1, a2, a3, a4, a5, a6, a7, b8] := h6.set_ 7 a7
  have h8 : Blk (((((((((w.setCell ⟨g, 0, none⟩ a0).setCell ⟨g, 1, none⟩ a1).setCell ⟨g, 2, none⟩ a2).setCell ⟨g, 3, none⟩ a3).setCell ⟨g, 4, none⟩ a4).setCell ⟨g, 5, none⟩ a5).setCell ⟨g, 6, none⟩ a6).setCell ⟨g, 7, none⟩ a7).setCell ⟨g, 8, none⟩ a8) g t #[a0, a1, a2, a3, a4, a5, a6, a7, a8] := h7.set_ 8 a8
  exact h8
theorem Blk.far9 {w : World} {g g' : Nat} {t : TypeId} {cs : Array Value} (h : Blk w g t cs) (hg : g ≠ g') (a0 a1 a2 a3 a4 a5 a6 a7 a8 : Value) : Blk (set9 w g' a0 a1 a2 a3 a4 a5 a6 a7 a8) g t cs :=
  ((((((((h.far hg _).far hg _).far hg _).far hg _).far hg _).far hg _).far hg _).far hg _).far hg _
theorem st9 {w w0 : World} {g : Nat} (h : Below w.heap.size w w0) (hg : w.heap.size ≤ g) (a0 a1 a2 a3 a4 a5 a6 a7 a8 : Value) : Below w.heap.size w (set9 w0 g a0 a1 a2 a3 a4 a5 a6 a7 a8) :=
  ((((((((h.setCell hg _).setCell hg _).setCell hg _).setCell hg _).setCell hg _).setCell hg _).setCell hg _).setCell hg _).setCell hg _
theorem set9_size (w : World) (g : Nat) (a0 a1 a2 a3 a4 a5 a6 a7 a8 : Value) : (set9 w g a0 a1 a2 a3 a4 a5 a6 a7 a8).heap.size = w.heap.size := by simp [set9]
theorem set9_far (w : World) (g : Nat) (a0 a1 a2 a3 a4 a5 a6 a7 a8 : Value) (b : Nat) (h : b ≠ g) : (set9 w g a0 a1 a2 a3 a4 a5 a6 a7 a8).heap[b]? = w.heap[b]? := by
  have k : ∀ (x : World) (i : Nat) (u : Value), (x.setCell ⟨g, i, none⟩ u).heap[b]? = x.heap[b]? := fun x i u => Below.heap_setCell x ⟨g, i, none⟩ u b h
  unfold set9
  rw [k, k, k, k, k, k, k, k, k]
theorem grown_set (w : World) (b i : Nat) (v : Value) : w.grownBy (w.setCell ⟨b, i, none⟩ v) (some b) :=
  ⟨rfl, rfl, rfl, by simp [World.setCell], fun k _ hk => Below.heap_setCell w ⟨b, i, none⟩ v k (fun e => hk (by rw [e]))⟩
/-- blocks from a base on, that are not the row's own, in a heap of this size -/
abbrev Nw (base : Nat) (v : Value) (n : Nat) : Nat → Prop := fun b => base ≤ b ∧ b < n ∧ some b ≠ v.ownBlock
end Go.Proofs.YtdiehgfldndgbaaGreatDoor
namespace Go.Proofs.YtdiehgfldndgbaaGreatDoor
open Go.RowKit Go.Deep

/-- numbers are read, in blocks of P -/
def IRd (w : World) (P : Nat → Prop) (A : Option Addr) (l : List Int) : Prop := 0 < l.length → ∃ b o, A = some ⟨b, o, none⟩ ∧ P b ∧ ∀ (i : Nat) (x : Int), l[i]? = some x → w.cell? ⟨b, o + i, none⟩ = some (.int .i64 x)
theorem IRd.kept {w w' : World} {P P' : Nat → Prop} {A : Option Addr} {l : List Int} (h : IRd w P A l) (hw : ∀ b, P b → w'.heap[b]? = w.heap[b]?) (hP : ∀ b, P b → P' b) : IRd w' P' A l := fun h0 => by
  obtain ⟨b, o, rfl, hb, hc⟩ := h h0
  exact ⟨b, o, rfl, hP b hb, fun i x hx => (World.cell?_of_block (a := ⟨b, _, none⟩) (hw b hb)).trans (hc i x hx)⟩
abbrev NwB (s t : Nat) : Nat → Prop := fun b => s ≤ b ∧ b < t
theorem IRd.at_ {w : World} {P : Nat → Prop} {A : Option Addr} {l : List Int} (h : IRd w P A l) {i : Nat} (hi : i < l.length) : ∃ b o, A = some ⟨b, o, none⟩ ∧ P b ∧ w.cell? ⟨b, o + i, none⟩ = some (.int .i64 l[i]) := by
  obtain ⟨b, o, rfl, hb, hc⟩ := h (by omega)
  exact ⟨b, o, rfl, hb, hc i l[i] (List.getElem?_eq_getElem hi)⟩
end Go.Proofs.YtdiehgfldndgbaaGreatDoor
namespace Go.Proofs.YtdiehgfldndgbaaGreatDoor
open Go.RowKit

/-- whether an operation from OAdd to OCoalesce may have so many arguments -/
def takesB (op : Int) (n : Nat) : Bool := decide (4 ≤ op) && decide (op ≤ 25) && manyB op n
set_option maxHeartbeats 1000000 in
theorem takes_any (op : Int) (n : Nat) (w : World) (hG : GS w) (hn : n ≤ 1000000000) : Calls Tryz.prog 163 #[.int .i64 op, .int .i64 n] w fun e w' => e = .returned (.bool (takesB op n)) ∧ w = w' := by
  by_cases h4 : op < 4
  · have HE : Hid (takesB op n = false) := Lib.hid (by unfold takesB; rw [decide_eq_false (by omega)]; rfl)
    have d4 : decide (op < 4) = true := decide_eq_true h4
    go_enter Tryz.func163, Tryz.ntmps163
    go_wp2_with fail
    go_ret
    exact ⟨by rw [HE.out]; rfl, rfl⟩
  · have d4 : decide (op < 4) = false := decide_eq_false h4
    by_cases h25 : 25 < op
    · have HE : Hid (takesB op n = false) := Lib.hid (by unfold takesB; rw [decide_eq_false (show ¬ op ≤ 25 by omega)]; simp)
      have d25 : decide (25 < op) = true := decide_eq_true h25
      go_enter Tryz.func163, Tryz.ntmps163
      go_wp2_with fail
      go_ret
      exact ⟨by rw [HE.out]; rfl, rfl⟩
    · obtain ⟨m, rfl⟩ : ∃ m : Nat, op = m := ⟨op.toNat, by omega⟩
      have h4' : 4 ≤ m := by omega
      have h25' : m ≤ 25 := by omega
      have d25 : decide (25 < (m : Int)) = false := decide_eq_false h25
      have HE : Hid (takesB m n = (!((m : Int) == 24 && (n : Int) % 2 == 0) && (decide (leastM m ≤ (n : Int)) && decide ((n : Int) ≤ mostM m)))) := Lib.hid (by unfold takesB; rw [decide_eq_true (show (4 : Int) ≤ m by omega), decide_eq_true (show (m : Int) ≤ 25 by omega), manyB_eq m n h4' h25']; rfl)
      obtain ⟨-, c1, c2, -, -⟩ := hG.shp m h4' h25'
      have hlo := hG.lo
      clear hG h4 h25
      generalize leastM m = a at *
      generalize mostM m = b at *
      cases hq : ((m : Int) == 24) with
      | true =>
        cases hr : ((n : Int) % 2 == 0) with
        | true =>
          rw [hq, hr] at HE
          go_enter Tryz.func163, Tryz.ntmps163
          go_wp2_with fail
          go_ret
          exact ⟨by rw [HE.out]; rfl, rfl⟩
        | false =>
          cases ha : decide (a ≤ (n : Int)) with
          | false =>
            rw [hq, hr, ha] at HE
            go_enter Tryz.func163, Tryz.ntmps163
            go_wp2_with fail
            go_ret
            exact ⟨by rw [HE.out]; rfl, rfl⟩
          | true =>
            rw [hq, hr, ha] at HE
            go_enter Tryz.func163, Tryz.ntmps163
            go_wp2_with fail
            go_ret
            exact ⟨by rw [HE.out]; rfl, rfl⟩
      | false =>
        cases ha : decide (a ≤ (n : Int)) with
        | false =>
          rw [hq, ha] at HE
          go_enter Tryz.func163, Tryz.ntmps163
          go_wp2_with fail
          go_ret
          exact ⟨by rw [HE.out]; rfl, rfl⟩
        | true =>
          rw [hq, ha] at HE
          go_enter Tryz.func163, Tryz.ntmps163
          go_wp2_with fail
          go_ret
          exact ⟨by rw [HE.out]; rfl, rfl⟩
end Go.Proofs.YtdiehgfldndgbaaGreatDoor
namespace Go.Proofs.YtdiehgfldndgbaaGreatDoor
open Go.RowKit Go.Deep

theorem shapedL_iff (d : Nat) : ∀ l : List E, shapedL d l = true ↔ ∀ x ∈ l, shapedE d x = true
  | [] => by simp [shapedL]
  | e :: l => by
    rw [shapedL, Bool.and_eq_true, shapedL_iff d l]
    constructor
    · rintro ⟨h1, h2⟩ x hx
      rcases List.mem_cons.1 hx with rfl | hx
      · exact h1
      · exact h2 x hx
    · exact fun h => ⟨h e (List.mem_cons_self ..), fun x hx => h x (List.mem_cons_of_mem _ hx)⟩
end Go.Proofs.YtdiehgfldndgbaaGreatDoor
namespace Go.Proofs.YtdiehgfldndgbaaGreatDoor
open Go.RowKit Go.Deep

mutual
theorem sameE_self : ∀ e : E, sameE e e = true
  | .mk op n m k lit args rels => by
    have h := sameL_self args
    rw [sameE]
    simp [h]
theorem sameL_self : ∀ l : List E, sameL l l = true
  | [] => by rw [sameL]; simp
  | e :: l => by rw [sameL, sameE_self e, sameL_self l]; rfl
end
end Go.Proofs.YtdiehgfldndgbaaGreatDoor
namespace Go.Proofs.YtdiehgfldndgbaaGreatDoor
open Go.WideShapes Go.ChangeShapes Go.RowKit Go.Deep

section
variable {H : Type} {enc : TypeId × Value → H} {w : World} {base : Nat} {spare : Nat → Bool} {held : Bool}
theorem E.val_of {e : E} {cs : Array Value} (h : EOk w (Lo w.heap.size) e (fun j => cs.toList[j]?)) (h9 : cs.size = 9) : ∃ A c R d, Value.agg cs = e.val A c R d ∧ LOk w (Lo w.heap.size) A e.args ∧ ROk w (Lo w.heap.size) R e.rels := by
  obtain ⟨l⟩ := cs
  obtain ⟨c0, c1, c2, c3, c4, c5, c6, c7, c8, hl⟩ := nine (cs := l) (by simpa using h9)
  subst hl
  obtain ⟨z0, z1, z2, z3, z4, z5, z6, ⟨A, c, z7, z8⟩, R, d, z9, z10⟩ := EOk.mk_.1 h
  simp only [List.getElem?_cons_zero, List.getElem?_cons_succ, Option.some.injEq] at z0 z1 z2 z3 z4 z5 z6 z7 z9
  exact ⟨A, c, R, d, by rw [z0, z1, z2, z3, z4, z5, z6, z7, z9]; rfl, z8, z10⟩
set_option maxRecDepth 100000 in
/-- an expression that came in -/
theorem open_expr {r : Reach} {b0 : Nat} {v : Value} {d : DataW H} {p : List MemPlace} (hv : Value.okWide Tryz.prog w r b0 30 v) (h : DataW.Trod enc Tryz.prog w base spare held 30 v d p) :
    ∃ (e : E) (A : Option Addr) (c : Nat) (R : Option Addr) (q : Nat), v = e.val A c R q ∧ LOk w (Lo w.heap.size) A e.args ∧ ROk w (Lo w.heap.size) R e.rels ∧ EIn e := by
  obtain ⟨cs, rfl, hcs⟩ := okWide_struct Tryz.underlying30 hv
  rw [cE] at hcs
  obtain ⟨fuel, hf⟩ := h
  obtain ⟨e, he, hin⟩ := expr_of fuel _ _ hf
  obtain ⟨A, c, R, q, h1, h2, h3⟩ := E.val_of (e := e) (cs := cs) he hcs
  exact ⟨e, A, c, R, q, h1, h2, h3, hin⟩
set_option maxRecDepth 100000 in
/-- a list of expressions, read as data -/
theorem exprs_of {fuel : Nat} {u : Value} {x : DataW H × List MemPlace} (h : DataW.trod enc Tryz.prog w base spare held fuel 22 [u] = some x) : ∃ (A : Option Addr) (c : Nat) (l : List E), u = .slice A l.length c ∧ LOk w (Lo w.heap.size) A l ∧ l.length ≤ maxLen ∧ LIn l := by
  rcases DataW.trod_slice Tryz.underlying22 h with ⟨h1, -⟩ | ⟨a, len, cap, el, rest, n5, hn5, h1, -, -, hlc, hcm, hel, hat, -, -⟩
  · simp only [List.cons.injEq, and_true] at h1
    exact ⟨none, 0, [], h1, LOk.nil_, Nat.zero_le _, by rw [LIn]; trivial⟩
  · simp only [List.cons.injEq, and_true] at h1
    have hone : ∀ i, i < len → ∃ e : E, EOk w (Lo w.heap.size) e (fun j => w.cell? ((a.add (i * 9)).add j)) ∧ EIn e := fun i hi => by
      obtain ⟨cs', y, hc, hy⟩ := elem_of (hat i hi) (by omega)
      rw [cE] at hc
      obtain ⟨-, hcl, hc2⟩ := World.cells?_some hc
      obtain ⟨e, he1, he2⟩ := expr_of n5 cs' y hy
      refine ⟨e, ?_, he2⟩
      rw [EOk.mk_] at he1 ⊢
      obtain ⟨z0, z1, z2, z3, z4, z5, z6, ⟨A, c, z7, z8⟩, R, d, z9, z10⟩ := he1
      exact ⟨(hc2 0 (by omega)).trans z0, (hc2 1 (by omega)).trans z1, (hc2 2 (by omega)).trans z2, (hc2 3 (by omega)).trans z3, (hc2 4 (by omega)).trans z4, (hc2 5 (by omega)).trans z5, (hc2 6 (by omega)).trans z6, ⟨A, c, (hc2 7 (by omega)).trans z7, z8⟩, R, d, (hc2 8 (by omega)).trans z9, z10⟩
    obtain ⟨l, hll, hlp⟩ := list_by len hone
    subst hll
    refine ⟨some a, cap, l, h1, ?_, by omega, LIn.of fun e he => ?_⟩
    · by_cases h0 : 0 < l.length
      · have z := (EOk.mk_.1 (hlp 0 h0).1).1
        rw [Nat.zero_mul] at z
        have z' : w.cell? (a.add 0) = some (.int .i64 l[0].op) := by
          rw [show (a.add 0).add 0 = a.add 0 by simp [Addr.add]] at z
          exact z
        obtain ⟨b, o, rfl, hb⟩ := plain_of z'
        refine LOk.of hb fun i hi => ?_
        have z2 := (hlp i hi).1
        simp only [add_at] at z2
        exact z2
      · rw [List.eq_nil_of_length_eq_zero (by omega : l.length = 0)]
        exact LOk.nil_
    · obtain ⟨i, hi, rfl⟩ := List.getElem_of_mem he
      exact (hlp i hi).2
set_option maxRecDepth 100000 in
/-- a list of expressions that came in -/
theorem open_exprs {r : Reach} {b0 : Nat} {v : Value} {d : DataW H} {p : List MemPlace} (hv : Value.okWide Tryz.prog w r b0 22 v) (h : DataW.Trod enc Tryz.prog w base spare held 22 v d p) :
    ∃ (A : Option Addr) (c : Nat) (l : List E), v = .slice A l.length c ∧ LOk w (Lo w.heap.size) A l ∧ l.length ≤ maxLen ∧ LIn l := by
  obtain ⟨a0, len, cap, rfl⟩ := okWide_slice Tryz.underlying22 hv
  obtain ⟨fuel, hf⟩ := h
  exact exprs_of hf
end
end Go.Proofs.YtdiehgfldndgbaaGreatDoor
