/-
  NodB: CONTRACT of the reference's Node, for all but literals: whether a node has the fields of its operation.
  NodL: CONTRACT of the reference's Node at a literal, and at any node.
  Shp: CONTRACTS of the reference's shaped, Nodes, Form.
  FrmF: CONTRACT of the reference's Form: the form of a plain expression.
  NdP: CONTRACTS of scalar.hasNoLit, hasLit, isNode: a node has just the fields of its operation.
  NdL: CONTRACT of scalar.hasLit.
  NdN: CONTRACT of scalar.isNode.
  HsF: CONTRACT of scalar.hasForm: the form of an expression, the nodes counted behind a pointer.
  CkE: CONTRACTS of scalar.Check, check: the form of expressions.
-/
import Derived.Test.YtdiehgfldndgbaaGreatDoorGA07
import Derived.Test.YtdiehgfldndgbaaGreatDoorGA03
import Derived.Deep.DeepCutAuto
import Derived.Deep.CutBlock
namespace Go.Proofs.YtdiehgfldndgbaaGreatDoor
open Go.RowKit

theorem neqV0 (a b : Int) (s : ByteArray) (a' b' : Int) (s' : ByteArray) (w : World) :
    (binOp .neq 27 (.agg #[.int .i64 a, .int .i64 b, .string s]) (.agg #[.int .i64 a', .int .i64 b', .string s'])).run Tryz.prog w = .ok (.bool (!veq a b s a' b' s')) w := by
  have hS : Tryz.prog.underlying 27 = some (.struct (Tryz.prog.fieldsOf 27)) := by kernel_rfl
  have hp : Tryz.prog.stoodInHeld 27 = false := by kernel_rfl
  rw [run_neq_struct, show (10000 : Nat) = 9999 + 1 from rfl, run_equalIn_agg w 9999 27 _ _ hS hp]
  simp only [Program.fieldsOf, Tryz.underlying27]
  go_simp
  unfold veq
  by_cases h1 : a = a' <;> by_cases h2 : b = b' <;> by_cases h3 : s.toList = s'.toList <;> simp [h1, h2, h3]
theorem beq_cast (a : Nat) : ((a : Int) == 0) = (a == 0) := by
  rw [Bool.eq_iff_iff]; simp
theorem isZ_veq (k n : Int) (s : ByteArray) : V.isZ ⟨k, n, s⟩ = veq k n s 0 0 ⟨#[]⟩ := by
  unfold veq V.isZ
  rw [ByteArray.toList_eq, ByteArray.toList_eq, Bool.and_assoc]
/-- the numbers of a node that is no literal -/
def bareB (op n m : Int) : Bool := if op = 1 then decide (0 ≤ n) && m == 0 else if op = 2 then decide (1 ≤ n) && decide (0 ≤ m) else n == 0 && m == 0
/-- the other fields -/
def nodeR (op kind lk ln : Int) (ls : ByteArray) (a r : Nat) : Bool := kind == 0 && (veq lk ln ls 0 0 ⟨#[]⟩ && (r == 0 && (if op = 1 ∨ op = 2 then a == 0 else decide (4 ≤ op) && (decide (op ≤ 25) && manyB op a))))
theorem nodeB_not3 {op n m kind lk ln : Int} {ls : ByteArray} {a r : Nat} (h : ¬ op = 3) : nodeB op n m kind ⟨lk, ln, ls⟩ a r = (bareB op n m && nodeR op kind lk ln ls a r) := by
  unfold nodeB bareB nodeR
  rw [if_neg h, isZ_veq]
  simp only [Bool.and_assoc]
set_option maxHeartbeats 8000000 in
set_option maxRecDepth 100000 in
theorem Node_not3 (op n m kind lk ln : Int) (ls : ByteArray) (A R : Option Addr) (a c r d : Nat) (w : World) (h3 : ¬ op = 3) (ha : a ≤ 1000000) :
    Calls Tryz.prog 87 #[.agg #[.int .i64 op, .int .i64 n, .int .i64 m, .int .i64 kind, .int .i64 lk, .int .i64 ln, .string ls, .slice A a c, .slice R r d]] w fun e w' => e = .returned (.bool (nodeB op n m kind ⟨lk, ln, ls⟩ a r)) ∧ Below w.heap.size w w' := by
  have HN := Lib.hid (nodeB_not3 (op := op) (n := n) (m := m) (kind := kind) (lk := lk) (ln := ln) (ls := ls) (a := a) (r := r) h3)
  go_enter Tryz.func87, Tryz.ntmps87
  go_upto_region 1 with fail
  go_cut [3] (fun s wx => s = .bool (n == 0 && m == 0) ∧ wx = (w.alloc (.cells #[.int .i64 op, .int .i64 n, .int .i64 m, .int .i64 kind, .int .i64 lk, .int .i64 ln, .string ls, .slice A a c, .slice R r d] 30)))
  case first =>
    cases hn : (n == 0) with
    | false =>
      go_wp2_with fail
      go_meet
      case rel => exact ⟨by rw [hn]; rfl, rfl⟩
    | true =>
      go_wp2_with fail
      go_meet
      case rel => exact ⟨by rw [hn]; rfl, rfl⟩
  case rest =>
    obtain ⟨rfl, rfl⟩ := hcut
    go_upto_block 0 with fail
    go_cut [3] (fun s wx => s = .bool (bareB op n m) ∧ wx = (w.alloc (.cells #[.int .i64 op, .int .i64 n, .int .i64 m, .int .i64 kind, .int .i64 lk, .int .i64 ln, .string ls, .slice A a c, .slice R r d] 30)))
    case first =>
      by_cases h1 : op = 1
      · subst h1
        have HE : Hid (bareB 1 n m = (decide (0 ≤ n) && m == 0)) := Lib.hid rfl
        cases hg : decide ((0 : Int) ≤ n) with
        | false =>
          go_wp2_with fail
          go_meet
          case rel => exact ⟨by rw [HE.out, hg]; rfl, rfl⟩
        | true =>
          go_wp2_with fail
          go_meet
          case rel => exact ⟨by rw [HE.out, hg]; rfl, rfl⟩
      · have e1 : (op == 1) = false := beq_eq_false_iff_ne.2 h1
        by_cases h2 : op = 2
        · subst h2
          have HE : Hid (bareB 2 n m = (decide (1 ≤ n) && decide (0 ≤ m))) := Lib.hid rfl
          cases hg : decide ((1 : Int) ≤ n) with
          | false =>
            go_wp2_with fail
            go_meet
            case rel => exact ⟨by rw [HE.out, hg]; rfl, rfl⟩
          | true =>
            go_wp2_with fail
            go_meet
            case rel => exact ⟨by rw [HE.out, hg]; rfl, rfl⟩
        · have e2 : (op == 2) = false := beq_eq_false_iff_ne.2 h2
          have e3 : (op == 3) = false := beq_eq_false_iff_ne.2 h3
          have HE : Hid (bareB op n m = (n == 0 && m == 0)) := Lib.hid (by unfold bareB; rw [if_neg h1, if_neg h2])
          clear h1 h2 h3
          go_wp2_with fail
          go_meet
          case rel => exact ⟨by rw [HE.out], rfl⟩
    case rest =>
      obtain ⟨rfl, rfl⟩ := hcut
      have hne := @neqV0
      cases hb : bareB op n m with
      | false =>
        have HB := Lib.hid hb
        clear h3 hb
        go_wp2_with fail
        go_ret
        exact ⟨by rw [HN.out, HB.out]; rfl, al (Below.refl _ _) _⟩
      | true =>
        have HB := Lib.hid hb
        clear hb
        cases hk : (kind == 0) with
        | false =>
          have hk2 : (kind != 0) = true := by simp [bne, hk]
          have HE : Hid (nodeR op kind lk ln ls a r = false) := Lib.hid (by simp only [nodeR, hk, Bool.false_and])
          clear h3
          go_wp2_with ((refine (Many_any _ _ _ ha).mono ?_); rintro e w' ⟨rfl, rfl⟩)
          go_ret
          exact ⟨by rw [HN.out, HB.out, HE.out]; rfl, al (Below.refl _ _) _⟩
        | true =>
          have hk2 : (kind != 0) = false := by simp [bne, hk]
          cases hz : veq lk ln ls 0 0 ⟨#[]⟩ with
          | false =>
            have HE : Hid (nodeR op kind lk ln ls a r = false) := Lib.hid (by simp only [nodeR, hk, hz, Bool.false_and, Bool.and_false])
            clear h3
            go_wp2_with ((refine (Many_any _ _ _ ha).mono ?_); rintro e w' ⟨rfl, rfl⟩)
            go_ret
            exact ⟨by rw [HN.out, HB.out, HE.out]; rfl, al (Below.refl _ _) _⟩
          | true =>
            by_cases hr1 : r = 0
            · have hr2 : decide ((0 : Int) < (r : Int)) = false := decide_eq_false (by omega)
              have hr3 : (r == 0) = true := by simp [hr1]
              have hr4 : decide (0 < r) = false := decide_eq_false (by omega)
              have hr5 : ¬ 0 < r := by omega
              clear hr1
              by_cases h1 : op = 1 ∨ op = 2
              · have HE : Hid (nodeR op kind lk ln ls a r = (a == 0)) := Lib.hid (by simp only [nodeR, hk, hz, hr3, if_pos h1, Bool.true_and])
                rcases h1 with rfl | rfl
                · clear h3
                  go_wp2_with ((refine (Many_any _ _ _ ha).mono ?_); rintro e w' ⟨rfl, rfl⟩)
                  go_ret
                  exact ⟨by rw [HN.out, HB.out, HE.out, ← beq_cast]; rfl, al (Below.refl _ _) _⟩
                · clear h3
                  go_wp2_with ((refine (Many_any _ _ _ ha).mono ?_); rintro e w' ⟨rfl, rfl⟩)
                  go_ret
                  exact ⟨by rw [HN.out, HB.out, HE.out, ← beq_cast]; rfl, al (Below.refl _ _) _⟩
              · have e1 : (op == 1) = false := beq_eq_false_iff_ne.2 fun e => h1 (.inl e)
                have e2 : (op == 2) = false := beq_eq_false_iff_ne.2 fun e => h1 (.inr e)
                cases h4 : decide ((4 : Int) ≤ op) with
                | false =>
                  have HE : Hid (nodeR op kind lk ln ls a r = false) := Lib.hid (by simp only [nodeR, hk, hz, hr3, if_neg h1, h4, Bool.false_and, Bool.and_false])
                  clear h1 h3
                  go_wp2_with ((refine (Many_any _ _ _ ha).mono ?_); rintro e w' ⟨rfl, rfl⟩)
                  go_ret
                  exact ⟨by rw [HN.out, HB.out, HE.out]; rfl, al (Below.refl _ _) _⟩
                | true =>
                  cases h5 : decide (op ≤ (25 : Int)) with
                  | false =>
                    have HE : Hid (nodeR op kind lk ln ls a r = false) := Lib.hid (by simp only [nodeR, hk, hz, hr3, if_neg h1, h4, h5, Bool.false_and, Bool.and_false])
                    clear h1 h3
                    go_wp2_with ((refine (Many_any _ _ _ ha).mono ?_); rintro e w' ⟨rfl, rfl⟩)
                    go_ret
                    exact ⟨by rw [HN.out, HB.out, HE.out]; rfl, al (Below.refl _ _) _⟩
                  | true =>
                    have HE : Hid (nodeR op kind lk ln ls a r = (manyB op a)) := Lib.hid (by simp only [nodeR, hk, hz, hr3, if_neg h1, h4, h5, Bool.true_and])
                    clear h1 h3
                    go_wp2_with ((refine (Many_any _ _ _ ha).mono ?_); rintro e w' ⟨rfl, rfl⟩)
                    go_ret
                    exact ⟨by rw [HN.out, HB.out, HE.out]; rfl, al (Below.refl _ _) _⟩
            · have hr2 : decide ((0 : Int) < (r : Int)) = true := decide_eq_true (by omega)
              have hr3 : (r == 0) = false := by simp [hr1]
              have hr4 : decide (0 < r) = true := decide_eq_true (by omega)
              have hr5 : 0 < r := by omega
              have HE : Hid (nodeR op kind lk ln ls a r = false) := Lib.hid (by simp only [nodeR, hk, hz, hr3, Bool.false_and, Bool.and_false])
              clear hr1 h3
              go_wp2_with ((refine (Many_any _ _ _ ha).mono ?_); rintro e w' ⟨rfl, rfl⟩)
              go_ret
              exact ⟨by rw [HN.out, HB.out, HE.out]; rfl, al (Below.refl _ _) _⟩
end Go.Proofs.YtdiehgfldndgbaaGreatDoor
namespace Go.Proofs.YtdiehgfldndgbaaGreatDoor
open Go.RowKit

/-- a literal has its fields -/
def lit3 (n m kind lk ln : Int) (ls : ByteArray) (a r : Nat) : Bool := (n == 0 && m == 0) && (realB kind && (okVal lk ln ls.data.toList && ((lk == 0 || lk == kind) && (((a : Int) == 0) && ((r : Int) == 0)))))
theorem nodeB_3 {n m kind lk ln : Int} {ls : ByteArray} {a r : Nat} : nodeB 3 n m kind ⟨lk, ln, ls⟩ a r = lit3 n m kind lk ln ls a r := by
  unfold nodeB lit3
  rw [if_pos rfl]
  simp only [Bool.and_assoc, beq_cast]
set_option maxHeartbeats 8000000 in
set_option maxRecDepth 100000 in
theorem Node_3 (n m kind lk ln : Int) (ls : ByteArray) (A R : Option Addr) (a c r d : Nat) (w : World) (hs : ls.size ≤ maxLen) :
    Calls Tryz.prog 87 #[.agg #[.int .i64 3, .int .i64 n, .int .i64 m, .int .i64 kind, .int .i64 lk, .int .i64 ln, .string ls, .slice A a c, .slice R r d]] w fun e w' => e = .returned (.bool (nodeB 3 n m kind ⟨lk, ln, ls⟩ a r)) ∧ Below w.heap.size w w' := by
  have HN := Lib.hid (nodeB_3 (n := n) (m := m) (kind := kind) (lk := lk) (ln := ln) (ls := ls) (a := a) (r := r))
  go_enter Tryz.func87, Tryz.ntmps87
  go_upto_region 1 with fail
  go_cut [3] (fun s wx => s = .bool (n == 0 && m == 0) ∧ wx = (w.alloc (.cells #[.int .i64 3, .int .i64 n, .int .i64 m, .int .i64 kind, .int .i64 lk, .int .i64 ln, .string ls, .slice A a c, .slice R r d] 30)))
  case first =>
    cases hn : (n == 0) with
    | false =>
      go_wp2_with fail
      go_meet
      case rel => exact ⟨by rw [hn]; rfl, rfl⟩
    | true =>
      go_wp2_with fail
      go_meet
      case rel => exact ⟨by rw [hn]; rfl, rfl⟩
  case rest =>
    obtain ⟨rfl, rfl⟩ := hcut
    cases hb : (n == 0 && m == 0) with
    | false =>
        have HE : Hid (lit3 n m kind lk ln ls a r = false) := Lib.hid (by simp only [lit3, hb, Bool.false_and])
        go_wp2_with fail
        go_ret
        exact ⟨by rw [HN.out, HE.out]; rfl, al (Below.refl _ _) _⟩
    | true =>
        cases hk : realB kind with
        | false =>
          have HE : Hid (lit3 n m kind lk ln ls a r = false) := Lib.hid (by simp only [lit3, hb, hk, Bool.false_and, Bool.and_false])
          have HKc : Hid (∀ w : World, Calls Tryz.prog 135 #[.int .i64 kind] w fun e w' => e = .returned (.bool false) ∧ w = w') := Lib.hid fun w => by
            have h := Real_any kind w
            rw [hk] at h
            exact h
          clear hk
          go_wp2_with fail
          refine (HKc.out _).mono ?_
          rintro e w' ⟨rfl, rfl⟩
          go_wp2_with fail
          go_ret
          exact ⟨by rw [HN.out, HE.out]; rfl, al (Below.refl _ _) _⟩
        | true =>
          have HKc : Hid (∀ w : World, Calls Tryz.prog 135 #[.int .i64 kind] w fun e w' => e = .returned (.bool true) ∧ w = w') := Lib.hid fun w => by
            have h := Real_any kind w
            rw [hk] at h
            exact h
          cases hv : okVal lk ln ls.data.toList with
          | false =>
            have HE : Hid (lit3 n m kind lk ln ls a r = false) := Lib.hid (by simp only [lit3, hb, hk, hv, Bool.false_and, Bool.and_false])
            have HVc : Hid (∀ w : World, Calls Tryz.prog 82 #[.agg #[.int .i64 lk, .int .i64 ln, .string ls]] w fun e w' => e = .returned (.bool false) ∧ Below w.heap.size w w') := Lib.hid fun w => by
              have h := Right_any lk ln ls w hs
              rw [hv] at h
              exact h
            clear hk hv
            go_wp2_with fail
            refine (HKc.out _).mono ?_
            rintro e w' ⟨rfl, rfl⟩
            go_wp2_with fail
            refine (HVc.out _).mono ?_
            rintro e w2 ⟨rfl, hb2⟩
            have H2 := Lib.hid (thn (al (Below.refl _ _) _) hb2)
            clear hb2
            go_wp2_with fail
            go_ret
            exact ⟨by rw [HN.out, HE.out]; rfl, H2.out⟩
          | true =>
            have HVc : Hid (∀ w : World, Calls Tryz.prog 82 #[.agg #[.int .i64 lk, .int .i64 ln, .string ls]] w fun e w' => e = .returned (.bool true) ∧ Below w.heap.size w w') := Lib.hid fun w => by
              have h := Right_any lk ln ls w hs
              rw [hv] at h
              exact h
            cases hl0 : (lk == 0) with
            | false =>
              cases hle : (lk == kind) with
              | false =>
                have HE : Hid (lit3 n m kind lk ln ls a r = false) := Lib.hid (by simp only [lit3, hb, hk, hv, hl0, hle, Bool.false_and, Bool.and_false, Bool.or_false])
                clear hk hv
                go_wp2_with fail
                refine (HKc.out _).mono ?_
                rintro e w' ⟨rfl, rfl⟩
                go_wp2_with fail
                refine (HVc.out _).mono ?_
                rintro e w2 ⟨rfl, hb2⟩
                have b0 := (Blk.new w 30 #[.int .i64 3, .int .i64 n, .int .i64 m, .int .i64 kind, .int .i64 lk, .int .i64 ln, .string ls, .slice A a c, .slice R r d]).below hb2 (by simp)
                have b3 := b0.cell 3
                have b4 := b0.cell 4
                have b7 := b0.cell 7
                have b8 := b0.cell 8
                simp only [List.getElem?_toArray, List.getElem?_cons_succ, List.getElem?_cons_zero] at b3 b4 b7 b8
                have H2 := Lib.hid (thn (al (Below.refl _ _) _) hb2)
                clear hb2 b0
                go_wp2_with fail
                go_ret
                exact ⟨by rw [HN.out, HE.out]; rfl, H2.out⟩
              | true =>
                cases ha2 : ((a : Int) == 0) with
                | false =>
                  have HE : Hid (lit3 n m kind lk ln ls a r = false) := Lib.hid (by simp only [lit3, hb, hk, hv, hl0, hle, ha2, Bool.false_and, Bool.and_false, Bool.or_true])
                  clear hk hv
                  go_wp2_with fail
                  refine (HKc.out _).mono ?_
                  rintro e w' ⟨rfl, rfl⟩
                  go_wp2_with fail
                  refine (HVc.out _).mono ?_
                  rintro e w2 ⟨rfl, hb2⟩
                  have b0 := (Blk.new w 30 #[.int .i64 3, .int .i64 n, .int .i64 m, .int .i64 kind, .int .i64 lk, .int .i64 ln, .string ls, .slice A a c, .slice R r d]).below hb2 (by simp)
                  have b3 := b0.cell 3
                  have b4 := b0.cell 4
                  have b7 := b0.cell 7
                  have b8 := b0.cell 8
                  simp only [List.getElem?_toArray, List.getElem?_cons_succ, List.getElem?_cons_zero] at b3 b4 b7 b8
                  have H2 := Lib.hid (thn (al (Below.refl _ _) _) hb2)
                  clear hb2 b0
                  go_wp2_with fail
                  go_ret
                  exact ⟨by rw [HN.out, HE.out]; rfl, H2.out⟩
                | true =>
                  have HE : Hid (lit3 n m kind lk ln ls a r = ((r : Int) == 0)) := Lib.hid (by simp only [lit3, hb, hk, hv, hl0, hle, ha2, Bool.true_and, Bool.or_true])
                  clear hk hv
                  go_wp2_with fail
                  refine (HKc.out _).mono ?_
                  rintro e w' ⟨rfl, rfl⟩
                  go_wp2_with fail
                  refine (HVc.out _).mono ?_
                  rintro e w2 ⟨rfl, hb2⟩
                  have b0 := (Blk.new w 30 #[.int .i64 3, .int .i64 n, .int .i64 m, .int .i64 kind, .int .i64 lk, .int .i64 ln, .string ls, .slice A a c, .slice R r d]).below hb2 (by simp)
                  have b3 := b0.cell 3
                  have b4 := b0.cell 4
                  have b7 := b0.cell 7
                  have b8 := b0.cell 8
                  simp only [List.getElem?_toArray, List.getElem?_cons_succ, List.getElem?_cons_zero] at b3 b4 b7 b8
                  have H2 := Lib.hid (thn (al (Below.refl _ _) _) hb2)
                  clear hb2 b0
                  go_wp2_with fail
                  go_ret
                  exact ⟨by rw [HN.out, HE.out]; rfl, H2.out⟩
            | true =>
              cases ha2 : ((a : Int) == 0) with
              | false =>
                have HE : Hid (lit3 n m kind lk ln ls a r = false) := Lib.hid (by simp only [lit3, hb, hk, hv, hl0, ha2, Bool.false_and, Bool.and_false, Bool.true_or])
                clear hk hv
                go_wp2_with fail
                refine (HKc.out _).mono ?_
                rintro e w' ⟨rfl, rfl⟩
                go_wp2_with fail
                refine (HVc.out _).mono ?_
                rintro e w2 ⟨rfl, hb2⟩
                have b0 := (Blk.new w 30 #[.int .i64 3, .int .i64 n, .int .i64 m, .int .i64 kind, .int .i64 lk, .int .i64 ln, .string ls, .slice A a c, .slice R r d]).below hb2 (by simp)
                have b3 := b0.cell 3
                have b4 := b0.cell 4
                have b7 := b0.cell 7
                have b8 := b0.cell 8
                simp only [List.getElem?_toArray, List.getElem?_cons_succ, List.getElem?_cons_zero] at b3 b4 b7 b8
                have H2 := Lib.hid (thn (al (Below.refl _ _) _) hb2)
                clear hb2 b0
                go_wp2_with fail
                go_ret
                exact ⟨by rw [HN.out, HE.out]; rfl, H2.out⟩
              | true =>
                have HE : Hid (lit3 n m kind lk ln ls a r = ((r : Int) == 0)) := Lib.hid (by simp only [lit3, hb, hk, hv, hl0, ha2, Bool.true_and, Bool.true_or])
                clear hk hv
                go_wp2_with fail
                refine (HKc.out _).mono ?_
                rintro e w' ⟨rfl, rfl⟩
                go_wp2_with fail
                refine (HVc.out _).mono ?_
                rintro e w2 ⟨rfl, hb2⟩
                have b0 := (Blk.new w 30 #[.int .i64 3, .int .i64 n, .int .i64 m, .int .i64 kind, .int .i64 lk, .int .i64 ln, .string ls, .slice A a c, .slice R r d]).below hb2 (by simp)
                have b3 := b0.cell 3
                have b4 := b0.cell 4
                have b7 := b0.cell 7
                have b8 := b0.cell 8
                simp only [List.getElem?_toArray, List.getElem?_cons_succ, List.getElem?_cons_zero] at b3 b4 b7 b8
                have H2 := Lib.hid (thn (al (Below.refl _ _) _) hb2)
                clear hb2 b0
                go_wp2_with fail
                go_ret
                exact ⟨by rw [HN.out, HE.out]; rfl, H2.out⟩
/-- WHETHER A NODE HAS THE FIELDS OF ITS OPERATION -/
theorem Node_any (e : E) (A R : Option Addr) (c d : Nat) (w : World) (hs : e.lit.s.size ≤ maxLen) (ha : e.args.length ≤ 1000000) :
    Calls Tryz.prog 87 #[e.val A c R d] w fun x w' => x = .returned (.bool e.node) ∧ Below w.heap.size w w' := by
  obtain ⟨op, n, m, kind, ⟨lk, ln, ls⟩, args, rels⟩ := e
  by_cases h3 : op = 3
  · subst h3
    exact Node_3 n m kind lk ln ls A R args.length c rels.length d w hs
  · exact Node_not3 op n m kind lk ln ls A R args.length c rels.length d w h3 ha
end Go.Proofs.YtdiehgfldndgbaaGreatDoor
namespace Go.Proofs.YtdiehgfldndgbaaGreatDoor
open Go.RowKit

mutual
/-- texts that fit, lists that are short -/
def fitX : E → Prop
  | .mk _ _ _ _ lit args _ => lit.s.size ≤ maxLen ∧ args.length ≤ 1000000 ∧ fitXL args
def fitXL : List E → Prop
  | [] => True
  | e :: l => fitX e ∧ fitXL l
end
theorem fitXL.mem : ∀ {l : List E}, fitXL l → ∀ e ∈ l, fitX e
  | e :: l, h, x, hx => by
    rw [fitXL] at h
    rcases List.mem_cons.1 hx with rfl | hx
    · exact h.1
    · exact fitXL.mem h.2 x hx
theorem fitX_mk {e : E} : fitX e ↔ e.lit.s.size ≤ maxLen ∧ e.args.length ≤ 1000000 ∧ fitXL e.args := by
  cases e; rw [fitX]; exact Iff.rfl
set_option maxHeartbeats 4000000 in
set_option maxRecDepth 100000 in
theorem shaped_any : ∀ (d : Nat) (e : E) (A R : Option Addr) (c q : Nat) (w : World), d ≤ 1000 → fitX e → LOk w (Lo w.heap.size) A e.args →
    Calls Tryz.prog 49 #[e.val A c R q, .int .i64 d] w fun x w' => x = .returned (.bool (shapedE d e)) ∧ Below w.heap.size w w' := by
  intro d
  induction d with
  | zero =>
    intro e A R c q w _ _ _
    have HE := Lib.hid (shapedE_zero e)
    unfold E.val
    go_enter Tryz.func49, Tryz.ntmps49
    go_wp2_with fail
    go_ret
    exact ⟨by rw [HE.out]; rfl, al (Below.refl _ _) _⟩
  | succ d ih =>
    intro e A R c q w hd hf hA
    have IH := Lib.hid ih
    have HA := Lib.hid hA
    have hf2 := fitX_mk.1 hf
    have HF := Lib.hid hf2.2.2
    have HS := Lib.hid (shapedE_succ d e)
    have hal := hf2.2.1
    have hdz : (((d + 1 : Nat) : Int) == 0) = false := beq_eq_false_iff_ne.2 (by omega)
    have hdi : ((d + 1 : Nat) : Int) - 1 = (d : Int) := by omega
    have HNd : Hid (∀ w : World, Calls Tryz.prog 87 #[e.val A c R q] w fun x w' => x = .returned (.bool e.node) ∧ Below w.heap.size w w') := Lib.hid fun w => Node_any e A R c q w hf2.1 hf2.2.1
    obtain ⟨dd, hdd⟩ : ∃ dd : Nat, dd = d + 1 := ⟨_, rfl⟩
    rw [← hdd] at hdz hdi ⊢
    have hdl : dd ≤ 1001 := by omega
    have hdl0 : 1 ≤ dd := by omega
    have HDD := Lib.hid hdd
    clear ih hA hf hf2 hdd hd
    unfold E.val at HNd ⊢
    cases hn : e.node with
    | false =>
      have HNf : Hid (∀ w : World, Calls Tryz.prog 87 #[.agg #[.int .i64 e.op, .int .i64 e.n, .int .i64 e.m, .int .i64 e.kind, .int .i64 e.lit.k, .int .i64 e.lit.n, .string e.lit.s, .slice A e.args.length c, .slice R e.rels.length q]] w fun x w' => x = .returned (.bool false) ∧ Below w.heap.size w w') := Lib.hid fun w => by
        have h := HNd.out w
        rw [hn] at h
        exact h
      have HE : Hid (shapedE dd e = false) := Lib.hid (by rw [HDD.out, HS.out, hn]; rfl)
      clear hn
      go_enter Tryz.func49, Tryz.ntmps49
      go_wp2_with fail
      refine (HNf.out _).mono ?_
      rintro x w2 ⟨rfl, hb2⟩
      have H2 := Lib.hid (thn (al (Below.refl _ _) _) hb2)
      clear hb2
      go_wp2_with fail
      go_ret
      exact ⟨by rw [HE.out]; rfl, H2.out⟩
    | true =>
      have HNf : Hid (∀ w : World, Calls Tryz.prog 87 #[.agg #[.int .i64 e.op, .int .i64 e.n, .int .i64 e.m, .int .i64 e.kind, .int .i64 e.lit.k, .int .i64 e.lit.n, .string e.lit.s, .slice A e.args.length c, .slice R e.rels.length q]] w fun x w' => x = .returned (.bool true) ∧ Below w.heap.size w w') := Lib.hid fun w => by
        have h := HNd.out w
        rw [hn] at h
        exact h
      have HE : Hid (shapedE dd e = shapedL d e.args) := Lib.hid (by rw [HDD.out, HS.out, hn, Bool.true_and])
      clear hn
      go_enter Tryz.func49, Tryz.ntmps49
      go_wp2_with fail
      refine (HNf.out _).mono ?_
      rintro x w2 ⟨rfl, hb2⟩
      have B0 := Lib.hid ((Blk.new w 30 #[.int .i64 e.op, .int .i64 e.n, .int .i64 e.m, .int .i64 e.kind, .int .i64 e.lit.k, .int .i64 e.lit.n, .string e.lit.s, .slice A e.args.length c, .slice R e.rels.length q]).below hb2 (by simp))
      have H2 := Lib.hid (thn (al (Below.refl _ _) _) hb2)
      clear hb2 HNf HNd
      go_wp2_with fail
      go_loopw [5] (fun iv wr => ∃ i : Nat, i ≤ e.args.length ∧ iv = .int .i64 i ∧ Hid (Below w2.heap.size w2 wr) ∧ Hid (shapedL d (e.args.take i) = true)) (fun iv _ => e.args.length - (intOf iv).toNat)
      case atStart => exact ⟨0, Nat.zero_le _, rfl, Lib.hid (Below.refl _ _), Lib.hid (by simp [shapedL])⟩
      case round =>
        obtain ⟨i, hi, rfl, HI, HT⟩ := hrel
        have HW : Hid (Below w.heap.size w wr) := Lib.hid (thn H2.out HI.out)
        have b7 := (B0.out.below HI.out B0.out.lt).cell 7
        change wr.cell? ⟨w.heap.size, 7, none⟩ = some (.slice A e.args.length c) at b7
        by_cases hlt : i < e.args.length
        · have hlti : (i : Int) < (e.args.length : Int) := by omega
          obtain ⟨b, o, rfl, hb, he⟩ := (HA.out.below HW.out HW.out.size).at_ hlt
          obtain ⟨z0, z1, z2, z3, z4, z5, z6, ⟨A', c', z7, z8⟩, R', d', z9, z10⟩ := EOk.mk_.1 he
          have y0 : wr.cell? ⟨b, o + i * 9, none⟩ = some (.int .i64 e.args[i].op) := z0
          have y1 : wr.cell? ⟨b, o + i * 9 + 1, none⟩ = some (.int .i64 e.args[i].n) := z1
          have y2 : wr.cell? ⟨b, o + i * 9 + 2, none⟩ = some (.int .i64 e.args[i].m) := z2
          have y3 : wr.cell? ⟨b, o + i * 9 + 3, none⟩ = some (.int .i64 e.args[i].kind) := z3
          have y4 : wr.cell? ⟨b, o + i * 9 + 4, none⟩ = some (.int .i64 e.args[i].lit.k) := z4
          have y5 : wr.cell? ⟨b, o + i * 9 + 5, none⟩ = some (.int .i64 e.args[i].lit.n) := z5
          have y6 : wr.cell? ⟨b, o + i * 9 + 6, none⟩ = some (.string e.args[i].lit.s) := z6
          have y7 : wr.cell? ⟨b, o + i * 9 + 7, none⟩ = some ((.slice A' e.args[i].args.length c')) := z7
          have y8 : wr.cell? ⟨b, o + i * 9 + 8, none⟩ = some ((.slice R' e.args[i].rels.length d')) := z9
          clear z0 z1 z2 z3 z4 z5 z6 z7 z9
          have hc := IH.out e.args[i] A' R' c' d' wr (by omega) (HF.out.mem _ (List.getElem_mem hlt)) z8
          unfold E.val at hc
          cases hq : shapedE d e.args[i] with
          | true =>
            rw [hq] at hc
            have HC := Lib.hid hc
            have HN : Hid (shapedL d (e.args.take (i + 1)) = true) := Lib.hid (by rw [shapedL_take d e.args i hlt HT.out, hq])
            clear hc hq he z8 z10
            go_wp2_with fail
            refine HC.out.mono ?_
            rintro x w3 ⟨rfl, hb3⟩
            have HI2 := Lib.hid (thn HI.out hb3)
            clear hb3 y0 y1 y2 y3 y4 y5 y6 y7 y8 b7
            go_wp2_with fail
            go_roundw
            case rel => exact ⟨i + 1, by omega, by go_num, HI2, HN⟩
            case measure => simp [intOf]; omega
          | false =>
            rw [hq] at hc
            have HC := Lib.hid hc
            have HN : Hid (shapedE dd e = false) := Lib.hid (by rw [HE.out]; exact shapedL_stop d e.args i hlt hq)
            clear hc hq he z8 z10
            go_wp2_with fail
            refine HC.out.mono ?_
            rintro x w3 ⟨rfl, hb3⟩
            have HI2 := Lib.hid (thn HW.out hb3)
            clear hb3 y0 y1 y2 y3 y4 y5 y6 y7 y8 b7
            go_wp2_with fail
            go_ret
            exact ⟨by rw [HN.out]; rfl, HI2.out⟩
        · have hlf : decide ((i : Int) < (e.args.length : Int)) = false := decide_eq_false (by omega)
          have HN : Hid (shapedE dd e = true) := Lib.hid (by
            rw [HE.out]
            have h := HT.out
            rw [List.take_of_length_le (by omega)] at h
            exact h)
          go_wp2_with fail
          go_ret
          exact ⟨by rw [HN.out]; rfl, HW.out⟩
end Go.Proofs.YtdiehgfldndgbaaGreatDoor
namespace Go.Proofs.YtdiehgfldndgbaaGreatDoor
open Go.RowKit

theorem formE_of (e : E) : formE e = (shapedE 24 e && decide ((nodesN e : Int) ≤ 400)) := by
  unfold formE
  congr 1
  have h := (nodesN_iff e).1
  by_cases h1 : nodesN e ≤ 400
  · rw [decide_eq_true (h.1 h1), decide_eq_true (by omega)]
  · rw [decide_eq_false (fun h2 => h1 (h.2 h2)), decide_eq_false (by omega)]
set_option maxHeartbeats 4000000 in
set_option maxRecDepth 100000 in
theorem Form_any (e : E) (A R : Option Addr) (c q : Nat) (w : World) (hn : nodesE e < 1000000) (hf : fitX e) (hA : LOk w (Lo w.heap.size) A e.args) :
    Calls Tryz.prog 15 #[e.val A c R q] w fun x w' => x = .returned (.bool (formE e)) ∧ Below w.heap.size w w' := by
  have HE := Lib.hid (formE_of e)
  have HA := Lib.hid hA
  have hs := fun w' (h : LOk w' (Lo w'.heap.size) A e.args) => shaped_any 24 e A R c q w' (by decide) hf h
  have hd := fun w' (h : LOk w' (Lo w'.heap.size) A e.args) => nodes_any 1000000 e A R c q w' hn (Nat.le_refl _) h
  unfold E.val at hs hd ⊢
  cases hq : shapedE 24 e with
  | false =>
    rw [hq] at hs
    have HS := Lib.hid hs
    have HF : Hid (formE e = false) := Lib.hid (by rw [HE.out, hq]; rfl)
    clear hs hd hq hA
    go_enter Tryz.func15, Tryz.ntmps15
    go_wp2_with fail
    refine (HS.out _ (HA.out.below (al (Below.refl _ _) _) (by simp))).mono ?_
    rintro x w2 ⟨rfl, hb2⟩
    have H2 := Lib.hid (thn (al (Below.refl _ _) _) hb2)
    clear hb2
    go_wp2_with fail
    go_ret
    exact ⟨by rw [HF.out]; rfl, H2.out⟩
  | true =>
    rw [hq] at hs
    have HS := Lib.hid hs
    have HD := Lib.hid hd
    have HF : Hid (formE e = decide ((nodesN e : Int) ≤ 400)) := Lib.hid (by rw [HE.out, hq, Bool.true_and])
    clear hs hd hq hA
    go_enter Tryz.func15, Tryz.ntmps15
    go_wp2_with fail
    refine (HS.out _ (HA.out.below (al (Below.refl _ _) _) (by simp))).mono ?_
    rintro x w2 ⟨rfl, hb2⟩
    have H2 := Lib.hid (And.intro (thn (al (Below.refl _ _) _) hb2) ((Blk.new w 30 #[.int .i64 e.op, .int .i64 e.n, .int .i64 e.m, .int .i64 e.kind, .int .i64 e.lit.k, .int .i64 e.lit.n, .string e.lit.s, .slice A e.args.length c, .slice R e.rels.length q]).below hb2 (by simp)))
    have c0 := H2.out.2.cell 0
    have c1 := H2.out.2.cell 1
    have c2 := H2.out.2.cell 2
    have c3 := H2.out.2.cell 3
    have c4 := H2.out.2.cell 4
    have c5 := H2.out.2.cell 5
    have c6 := H2.out.2.cell 6
    have c7 := H2.out.2.cell 7
    have c8 := H2.out.2.cell 8
    simp only [List.getElem?_toArray, List.getElem?_cons_succ, List.getElem?_cons_zero] at c0 c1 c2 c3 c4 c5 c6 c7 c8
    clear hb2 HS
    go_wp2_with fail
    refine (HD.out w2 (HA.out.below H2.out.1 H2.out.1.size)).mono ?_
    rintro x w3 ⟨rfl, hb3⟩
    have H3 := Lib.hid (thn H2.out.1 hb3)
    clear hb3 c0 c1 c2 c3 c4 c5 c6 c7 c8
    go_wp2_with fail
    go_ret
    exact ⟨by rw [HF.out]; rfl, H3.out⟩
end Go.Proofs.YtdiehgfldndgbaaGreatDoor
namespace Go.Proofs.YtdiehgfldndgbaaGreatDoor
open Go.RowKit

/-- no Kind, no Lit -/
def noLitB (e : E) : Bool := e.kind == 0 && e.lit.isZ
set_option maxHeartbeats 1000000 in
theorem hasNoLit_any (e : E) (A R : Option Addr) (c d : Nat) (w : World) : Calls Tryz.prog 161 #[e.val A c R d] w fun x w' => x = .returned (.bool (noLitB e)) ∧ Below w.heap.size w w' := by
  have hev := @eqV
  obtain ⟨op, n, m, kind, ⟨lk, ln, ls⟩, args, rels⟩ := e
  unfold E.val
  simp only [E.op, E.n, E.m, E.kind, E.lit, E.args, E.rels]
  have HE : Hid (noLitB (.mk op n m kind ⟨lk, ln, ls⟩ args rels) = (kind == 0 && veq lk ln ls 0 0 ⟨#[]⟩)) := Lib.hid (by unfold noLitB; simp only [E.kind, E.lit]; rw [isZ_veq])
  cases hk : (kind == 0) with
  | false =>
    rw [hk] at HE
    go_enter Tryz.func161, Tryz.ntmps161
    go_wp2_with fail
    go_ret
    exact ⟨by rw [HE.out]; rfl, al (Below.refl _ _) _⟩
  | true =>
    rw [hk] at HE
    go_enter Tryz.func161, Tryz.ntmps161
    go_wp2_with fail
    go_ret
    exact ⟨by rw [HE.out]; rfl, al (Below.refl _ _) _⟩
end Go.Proofs.YtdiehgfldndgbaaGreatDoor
namespace Go.Proofs.YtdiehgfldndgbaaGreatDoor
open Go.RowKit

/-- a literal's Kind and Lit -/
def hasLitB (e : E) : Bool := realB e.kind && (e.lit.k == e.kind || e.lit.k == 0) && (chk [e.lit] == 0)
set_option maxHeartbeats 4000000 in
theorem hasLit_any (e : E) (A R : Option Addr) (c d : Nat) (w : World) (hs : e.lit.s.size ≤ maxLen) : Calls Tryz.prog 162 #[e.val A c R d] w fun x w' => x = .returned (.bool (hasLitB e)) ∧ Below w.heap.size w w' := by
  obtain ⟨op, n, m, kind, ⟨lk, ln, ls⟩, args, rels⟩ := e
  unfold E.val
  simp only [E.op, E.n, E.m, E.kind, E.lit, E.args, E.rels] at hs ⊢
  have HC := fun w => Check_any lk ln ls w hs
  have HE : Hid (hasLitB (.mk op n m kind ⟨lk, ln, ls⟩ args rels) = (realB kind && (lk == kind || lk == 0) && (chk [⟨lk, ln, ls⟩] == 0))) := Lib.hid rfl
  generalize chk [⟨lk, ln, ls⟩] = q at *
  have HC := Lib.hid HC
  by_cases k1 : kind = 1
  · subst k1
    cases h1 : (lk == 1) with
    | true =>
      have HE : Hid (hasLitB (.mk op n m 1 ⟨lk, ln, ls⟩ args rels) = (q == 0)) := Lib.hid (by rw [HE.out, h1]; rfl)
      cases hq : (q == 0) with
      | false =>
        rw [hq] at HE
        go_enter Tryz.func162, Tryz.ntmps162
        go_wp2_with (go_at_call 230; refine (HC.out _).mono ?_; rintro e w' ⟨rfl, hb⟩)
        go_ret
        exact ⟨by rw [HE.out]; rfl, thn (al (Below.refl _ _) _) hb⟩
      | true =>
        rw [hq] at HE
        go_enter Tryz.func162, Tryz.ntmps162
        go_wp2_with (go_at_call 230; refine (HC.out _).mono ?_; rintro e w' ⟨rfl, hb⟩)
        go_ret
        exact ⟨by rw [HE.out]; rfl, thn (al (Below.refl _ _) _) hb⟩
    | false =>
      cases h2 : (lk == 0) with
      | true =>
        have HE : Hid (hasLitB (.mk op n m 1 ⟨lk, ln, ls⟩ args rels) = (q == 0)) := Lib.hid (by rw [HE.out, h1, h2]; rfl)
        cases hq : (q == 0) with
        | false =>
          rw [hq] at HE
          go_enter Tryz.func162, Tryz.ntmps162
          go_wp2_with (go_at_call 230; refine (HC.out _).mono ?_; rintro e w' ⟨rfl, hb⟩)
          go_ret
          exact ⟨by rw [HE.out]; rfl, thn (al (Below.refl _ _) _) hb⟩
        | true =>
          rw [hq] at HE
          go_enter Tryz.func162, Tryz.ntmps162
          go_wp2_with (go_at_call 230; refine (HC.out _).mono ?_; rintro e w' ⟨rfl, hb⟩)
          go_ret
          exact ⟨by rw [HE.out]; rfl, thn (al (Below.refl _ _) _) hb⟩
      | false =>
        have HE : Hid (hasLitB (.mk op n m 1 ⟨lk, ln, ls⟩ args rels) = false) := Lib.hid (by rw [HE.out, h1, h2]; rfl)
        go_enter Tryz.func162, Tryz.ntmps162
        go_wp2_with (go_at_call 230; refine (HC.out _).mono ?_; rintro e w' ⟨rfl, hb⟩)
        go_ret
        exact ⟨by rw [HE.out]; rfl, al (Below.refl _ _) _⟩
  · have f1 : (kind == 1) = false := beq_eq_false_iff_ne.2 k1
    by_cases k2 : kind = 2
    · subst k2
      cases h1 : (lk == 2) with
      | true =>
        have HE : Hid (hasLitB (.mk op n m 2 ⟨lk, ln, ls⟩ args rels) = (q == 0)) := Lib.hid (by rw [HE.out, h1]; rfl)
        cases hq : (q == 0) with
        | false =>
          rw [hq] at HE
          go_enter Tryz.func162, Tryz.ntmps162
          go_wp2_with (go_at_call 230; refine (HC.out _).mono ?_; rintro e w' ⟨rfl, hb⟩)
          go_ret
          exact ⟨by rw [HE.out]; rfl, thn (al (Below.refl _ _) _) hb⟩
        | true =>
          rw [hq] at HE
          go_enter Tryz.func162, Tryz.ntmps162
          go_wp2_with (go_at_call 230; refine (HC.out _).mono ?_; rintro e w' ⟨rfl, hb⟩)
          go_ret
          exact ⟨by rw [HE.out]; rfl, thn (al (Below.refl _ _) _) hb⟩
      | false =>
        cases h2 : (lk == 0) with
        | true =>
          have HE : Hid (hasLitB (.mk op n m 2 ⟨lk, ln, ls⟩ args rels) = (q == 0)) := Lib.hid (by rw [HE.out, h1, h2]; rfl)
          cases hq : (q == 0) with
          | false =>
            rw [hq] at HE
            go_enter Tryz.func162, Tryz.ntmps162
            go_wp2_with (go_at_call 230; refine (HC.out _).mono ?_; rintro e w' ⟨rfl, hb⟩)
            go_ret
            exact ⟨by rw [HE.out]; rfl, thn (al (Below.refl _ _) _) hb⟩
          | true =>
            rw [hq] at HE
            go_enter Tryz.func162, Tryz.ntmps162
            go_wp2_with (go_at_call 230; refine (HC.out _).mono ?_; rintro e w' ⟨rfl, hb⟩)
            go_ret
            exact ⟨by rw [HE.out]; rfl, thn (al (Below.refl _ _) _) hb⟩
        | false =>
          have HE : Hid (hasLitB (.mk op n m 2 ⟨lk, ln, ls⟩ args rels) = false) := Lib.hid (by rw [HE.out, h1, h2]; rfl)
          go_enter Tryz.func162, Tryz.ntmps162
          go_wp2_with (go_at_call 230; refine (HC.out _).mono ?_; rintro e w' ⟨rfl, hb⟩)
          go_ret
          exact ⟨by rw [HE.out]; rfl, al (Below.refl _ _) _⟩
    · have f2 : (kind == 2) = false := beq_eq_false_iff_ne.2 k2
      by_cases k3 : kind = 3
      · subst k3
        cases h1 : (lk == 3) with
        | true =>
          have HE : Hid (hasLitB (.mk op n m 3 ⟨lk, ln, ls⟩ args rels) = (q == 0)) := Lib.hid (by rw [HE.out, h1]; rfl)
          cases hq : (q == 0) with
          | false =>
            rw [hq] at HE
            go_enter Tryz.func162, Tryz.ntmps162
            go_wp2_with (go_at_call 230; refine (HC.out _).mono ?_; rintro e w' ⟨rfl, hb⟩)
            go_ret
            exact ⟨by rw [HE.out]; rfl, thn (al (Below.refl _ _) _) hb⟩
          | true =>
            rw [hq] at HE
            go_enter Tryz.func162, Tryz.ntmps162
            go_wp2_with (go_at_call 230; refine (HC.out _).mono ?_; rintro e w' ⟨rfl, hb⟩)
            go_ret
            exact ⟨by rw [HE.out]; rfl, thn (al (Below.refl _ _) _) hb⟩
        | false =>
          cases h2 : (lk == 0) with
          | true =>
            have HE : Hid (hasLitB (.mk op n m 3 ⟨lk, ln, ls⟩ args rels) = (q == 0)) := Lib.hid (by rw [HE.out, h1, h2]; rfl)
            cases hq : (q == 0) with
            | false =>
              rw [hq] at HE
              go_enter Tryz.func162, Tryz.ntmps162
              go_wp2_with (go_at_call 230; refine (HC.out _).mono ?_; rintro e w' ⟨rfl, hb⟩)
              go_ret
              exact ⟨by rw [HE.out]; rfl, thn (al (Below.refl _ _) _) hb⟩
            | true =>
              rw [hq] at HE
              go_enter Tryz.func162, Tryz.ntmps162
              go_wp2_with (go_at_call 230; refine (HC.out _).mono ?_; rintro e w' ⟨rfl, hb⟩)
              go_ret
              exact ⟨by rw [HE.out]; rfl, thn (al (Below.refl _ _) _) hb⟩
          | false =>
            have HE : Hid (hasLitB (.mk op n m 3 ⟨lk, ln, ls⟩ args rels) = false) := Lib.hid (by rw [HE.out, h1, h2]; rfl)
            go_enter Tryz.func162, Tryz.ntmps162
            go_wp2_with (go_at_call 230; refine (HC.out _).mono ?_; rintro e w' ⟨rfl, hb⟩)
            go_ret
            exact ⟨by rw [HE.out]; rfl, al (Below.refl _ _) _⟩
      · have f3 : (kind == 3) = false := beq_eq_false_iff_ne.2 k3
        have HE : Hid (hasLitB (.mk op n m kind ⟨lk, ln, ls⟩ args rels) = false) := Lib.hid (by rw [HE.out]; unfold realB; rw [f1, f2, f3]; rfl)
        clear k1 k2 k3
        go_enter Tryz.func162, Tryz.ntmps162
        go_wp2_with (go_at_call 230; refine (HC.out _).mono ?_; rintro e w' ⟨rfl, hb⟩)
        go_ret
        exact ⟨by rw [HE.out]; rfl, al (Below.refl _ _) _⟩
end Go.Proofs.YtdiehgfldndgbaaGreatDoor
namespace Go.Proofs.YtdiehgfldndgbaaGreatDoor
open Go.RowKit

theorem hasLitB_eq (op n m kind lk ln : Int) (ls : ByteArray) (args : List E) (rels : List Int) : hasLitB (.mk op n m kind ⟨lk, ln, ls⟩ args rels) = (realB kind && okVal lk ln ls.data.toList && (lk == 0 || lk == kind)) := by
  unfold hasLitB chk
  simp only [E.kind, E.lit, List.length_cons, List.length_nil, List.all_cons, List.all_nil, Bool.and_true, V.ok]
  rw [if_neg (by decide)]
  cases realB kind <;> cases okVal lk ln ls.data.toList <;> cases lk == 0 <;> cases lk == kind <;> rfl
set_option maxHeartbeats 4000000 in
theorem isNode_any (e : E) (A R : Option Addr) (c d : Nat) (w : World) (hG : GS w) (hs : e.lit.s.size ≤ maxLen) (ha : e.args.length ≤ 1000000000) : Calls Tryz.prog 112 #[e.val A c R d] w fun x w' => x = .returned (.bool e.node) ∧ Below w.heap.size w w' := by
  have HN : Hid (∀ w, Calls Tryz.prog 161 #[e.val A c R d] w fun x w' => x = .returned (.bool (noLitB e)) ∧ Below w.heap.size w w') := Lib.hid fun w => hasNoLit_any e A R c d w
  have HL : Hid (∀ w, Calls Tryz.prog 162 #[e.val A c R d] w fun x w' => x = .returned (.bool (hasLitB e)) ∧ Below w.heap.size w w') := Lib.hid fun w => hasLit_any e A R c d w hs
  obtain ⟨op, n, m, kind, ⟨lk, ln, ls⟩, args, rels⟩ := e
  have HT : Hid (∀ w1, Below w.heap.size w w1 → Calls Tryz.prog 163 #[.int .i64 op, .int .i64 args.length] w1 fun e w' => e = .returned (.bool (takesB op args.length)) ∧ w1 = w') := Lib.hid fun w1 h1 => takes_any op args.length w1 (hG.thn h1) ha
  unfold E.val at HN HL ⊢
  simp only [E.op, E.n, E.m, E.kind, E.lit, E.args, E.rels] at HN HL ⊢
  have HE : Hid (E.node (.mk op n m kind ⟨lk, ln, ls⟩ args rels) = (rels.length == 0 && (if op = 3 then n == 0 && (m == 0 && (hasLitB (.mk op n m kind ⟨lk, ln, ls⟩ args rels) && args.length == 0)) else if op = 1 then decide (0 ≤ n) && (m == 0 && (noLitB (.mk op n m kind ⟨lk, ln, ls⟩ args rels) && args.length == 0)) else if op = 2 then decide (1 ≤ n) && (decide (0 ≤ m) && (noLitB (.mk op n m kind ⟨lk, ln, ls⟩ args rels) && args.length == 0)) else n == 0 && (m == 0 && (noLitB (.mk op n m kind ⟨lk, ln, ls⟩ args rels) && takesB op args.length))))) := Lib.hid (by
    rw [hasLitB_eq, show E.node (.mk op n m kind ⟨lk, ln, ls⟩ args rels) = nodeB op n m kind ⟨lk, ln, ls⟩ args.length rels.length from rfl, show noLitB (.mk op n m kind ⟨lk, ln, ls⟩ args rels) = (kind == 0 && V.isZ ⟨lk, ln, ls⟩) from rfl]
    unfold nodeB takesB
    by_cases h3 : op = 3
    · rw [if_pos h3, if_pos h3]
      generalize okVal lk ln ls.data.toList = p0
      generalize (n == 0) = p1
      generalize (m == 0) = p2
      generalize (lk == 0 || lk == kind) = p4
      generalize (args.length == 0) = p5
      generalize (rels.length == 0) = p6
      cases p1 <;> cases p2 <;> cases realB kind <;> cases p0 <;> cases p4 <;> cases p5 <;> cases p6 <;> rfl
    · rw [if_neg h3, if_neg h3]
      generalize (⟨lk, ln, ls⟩ : V).isZ = p0
      generalize (kind == 0) = p4
      generalize (args.length == 0) = p5
      generalize (rels.length == 0) = p6
      by_cases h1 : op = 1
      · rw [if_pos h1, if_pos h1, if_pos (.inl h1)]
        generalize (decide (0 ≤ n)) = p1
        generalize (m == 0) = p2
        cases p1 <;> cases p2 <;> cases p0 <;> cases p4 <;> cases p5 <;> cases p6 <;> rfl
      · rw [if_neg h1, if_neg h1]
        by_cases h2 : op = 2
        · rw [if_pos h2, if_pos h2, if_pos (.inr h2)]
          generalize (decide (1 ≤ n)) = p1
          generalize (decide (0 ≤ m)) = p2
          cases p1 <;> cases p2 <;> cases p0 <;> cases p4 <;> cases p5 <;> cases p6 <;> rfl
        · rw [if_neg h2, if_neg h2, if_neg (by omega)]
          generalize (n == 0) = p1
          generalize (m == 0) = p2
          generalize (decide (4 ≤ op) && decide (op ≤ 25) && manyB op args.length) = p5
          cases p1 <;> cases p2 <;> cases p0 <;> cases p4 <;> cases p5 <;> cases p6 <;> rfl)
  generalize noLitB (.mk op n m kind ⟨lk, ln, ls⟩ args rels) = qn at *
  generalize hasLitB (.mk op n m kind ⟨lk, ln, ls⟩ args rels) = ql at *
  generalize takesB op args.length = qt at *
  generalize args.length = a at *
  generalize rels.length = r at *
  clear hG hs ha
  by_cases hr : r = 0
  · have hr2 : decide ((0 : Int) < (r : Int)) = false := decide_eq_false (by omega)
    have hr3 : (r == 0) = true := by simp [hr]
    have hr5 : ¬ 0 < r := by omega
    clear hr
    simp only [hr3, Bool.true_and] at HE
    by_cases o1 : op = 1
    · subst o1
      rw [if_neg (by decide), if_pos rfl] at HE
      cases g1 : (decide ((0 : Int) ≤ n)) with
      | false =>
        simp only [g1, Bool.false_and] at HE
        go_enter Tryz.func112, Tryz.ntmps112
        go_wp2_with (first | (go_at_call 161; refine (HN.out _).mono ?_; rintro e w1 ⟨rfl, hb⟩; have B1 := (Blk.new w 30 #[.int .i64 1, .int .i64 n, .int .i64 m, .int .i64 kind, .int .i64 lk, .int .i64 ln, .string ls, .slice A a c, .slice R r d]).below hb (by simp); have b7 := B1.cell 7; have b0 := B1.cell 0; simp only [List.getElem?_toArray, List.getElem?_cons_succ, List.getElem?_cons_zero] at b7 b0; clear B1) | (go_at_call 162; refine (HL.out _).mono ?_; rintro e w1 ⟨rfl, hb⟩; have B1 := (Blk.new w 30 #[.int .i64 1, .int .i64 n, .int .i64 m, .int .i64 kind, .int .i64 lk, .int .i64 ln, .string ls, .slice A a c, .slice R r d]).below hb (by simp); have b7 := B1.cell 7; have b0 := B1.cell 0; simp only [List.getElem?_toArray, List.getElem?_cons_succ, List.getElem?_cons_zero] at b7 b0; clear B1) | (go_at_call 163; refine (HT.out _ (thn (al (Below.refl _ _) _) hb)).mono ?_; rintro e w2 ⟨rfl, rfl⟩))
        go_ret
        exact ⟨by rw [HE.out]; rfl, al (Below.refl _ _) _⟩
      | true =>
        simp only [g1, Bool.true_and] at HE
        cases g2 : (m == 0) with
        | false =>
          simp only [g2, Bool.false_and] at HE
          go_enter Tryz.func112, Tryz.ntmps112
          go_wp2_with (first | (go_at_call 161; refine (HN.out _).mono ?_; rintro e w1 ⟨rfl, hb⟩; have B1 := (Blk.new w 30 #[.int .i64 1, .int .i64 n, .int .i64 m, .int .i64 kind, .int .i64 lk, .int .i64 ln, .string ls, .slice A a c, .slice R r d]).below hb (by simp); have b7 := B1.cell 7; have b0 := B1.cell 0; simp only [List.getElem?_toArray, List.getElem?_cons_succ, List.getElem?_cons_zero] at b7 b0; clear B1) | (go_at_call 162; refine (HL.out _).mono ?_; rintro e w1 ⟨rfl, hb⟩; have B1 := (Blk.new w 30 #[.int .i64 1, .int .i64 n, .int .i64 m, .int .i64 kind, .int .i64 lk, .int .i64 ln, .string ls, .slice A a c, .slice R r d]).below hb (by simp); have b7 := B1.cell 7; have b0 := B1.cell 0; simp only [List.getElem?_toArray, List.getElem?_cons_succ, List.getElem?_cons_zero] at b7 b0; clear B1) | (go_at_call 163; refine (HT.out _ (thn (al (Below.refl _ _) _) hb)).mono ?_; rintro e w2 ⟨rfl, rfl⟩))
          go_ret
          exact ⟨by rw [HE.out]; rfl, al (Below.refl _ _) _⟩
        | true =>
          simp only [g2, Bool.true_and] at HE
          cases qn with
          | false =>
            simp only [Bool.false_and] at HE
            go_enter Tryz.func112, Tryz.ntmps112
            go_wp2_with (first | (go_at_call 161; refine (HN.out _).mono ?_; rintro e w1 ⟨rfl, hb⟩; have B1 := (Blk.new w 30 #[.int .i64 1, .int .i64 n, .int .i64 m, .int .i64 kind, .int .i64 lk, .int .i64 ln, .string ls, .slice A a c, .slice R r d]).below hb (by simp); have b7 := B1.cell 7; have b0 := B1.cell 0; simp only [List.getElem?_toArray, List.getElem?_cons_succ, List.getElem?_cons_zero] at b7 b0; clear B1) | (go_at_call 162; refine (HL.out _).mono ?_; rintro e w1 ⟨rfl, hb⟩; have B1 := (Blk.new w 30 #[.int .i64 1, .int .i64 n, .int .i64 m, .int .i64 kind, .int .i64 lk, .int .i64 ln, .string ls, .slice A a c, .slice R r d]).below hb (by simp); have b7 := B1.cell 7; have b0 := B1.cell 0; simp only [List.getElem?_toArray, List.getElem?_cons_succ, List.getElem?_cons_zero] at b7 b0; clear B1) | (go_at_call 163; refine (HT.out _ (thn (al (Below.refl _ _) _) hb)).mono ?_; rintro e w2 ⟨rfl, rfl⟩))
            go_ret
            exact ⟨by rw [HE.out]; rfl, thn (al (Below.refl _ _) _) hb⟩
          | true =>
            simp only [Bool.true_and] at HE
            go_enter Tryz.func112, Tryz.ntmps112
            go_wp2_with (first | (go_at_call 161; refine (HN.out _).mono ?_; rintro e w1 ⟨rfl, hb⟩; have B1 := (Blk.new w 30 #[.int .i64 1, .int .i64 n, .int .i64 m, .int .i64 kind, .int .i64 lk, .int .i64 ln, .string ls, .slice A a c, .slice R r d]).below hb (by simp); have b7 := B1.cell 7; have b0 := B1.cell 0; simp only [List.getElem?_toArray, List.getElem?_cons_succ, List.getElem?_cons_zero] at b7 b0; clear B1) | (go_at_call 162; refine (HL.out _).mono ?_; rintro e w1 ⟨rfl, hb⟩; have B1 := (Blk.new w 30 #[.int .i64 1, .int .i64 n, .int .i64 m, .int .i64 kind, .int .i64 lk, .int .i64 ln, .string ls, .slice A a c, .slice R r d]).below hb (by simp); have b7 := B1.cell 7; have b0 := B1.cell 0; simp only [List.getElem?_toArray, List.getElem?_cons_succ, List.getElem?_cons_zero] at b7 b0; clear B1) | (go_at_call 163; refine (HT.out _ (thn (al (Below.refl _ _) _) hb)).mono ?_; rintro e w2 ⟨rfl, rfl⟩))
            go_ret
            exact ⟨by rw [HE.out, ← beq_cast]; rfl, thn (al (Below.refl _ _) _) hb⟩
    · have e1 : (op == 1) = false := beq_eq_false_iff_ne.2 o1
      by_cases o2 : op = 2
      · subst o2
        rw [if_neg (by decide), if_neg (by decide), if_pos rfl] at HE
        cases g1 : (decide ((1 : Int) ≤ n)) with
        | false =>
          simp only [g1, Bool.false_and] at HE
          go_enter Tryz.func112, Tryz.ntmps112
          go_wp2_with (first | (go_at_call 161; refine (HN.out _).mono ?_; rintro e w1 ⟨rfl, hb⟩; have B1 := (Blk.new w 30 #[.int .i64 2, .int .i64 n, .int .i64 m, .int .i64 kind, .int .i64 lk, .int .i64 ln, .string ls, .slice A a c, .slice R r d]).below hb (by simp); have b7 := B1.cell 7; have b0 := B1.cell 0; simp only [List.getElem?_toArray, List.getElem?_cons_succ, List.getElem?_cons_zero] at b7 b0; clear B1) | (go_at_call 162; refine (HL.out _).mono ?_; rintro e w1 ⟨rfl, hb⟩; have B1 := (Blk.new w 30 #[.int .i64 2, .int .i64 n, .int .i64 m, .int .i64 kind, .int .i64 lk, .int .i64 ln, .string ls, .slice A a c, .slice R r d]).below hb (by simp); have b7 := B1.cell 7; have b0 := B1.cell 0; simp only [List.getElem?_toArray, List.getElem?_cons_succ, List.getElem?_cons_zero] at b7 b0; clear B1) | (go_at_call 163; refine (HT.out _ (thn (al (Below.refl _ _) _) hb)).mono ?_; rintro e w2 ⟨rfl, rfl⟩))
          go_ret
          exact ⟨by rw [HE.out]; rfl, al (Below.refl _ _) _⟩
        | true =>
          simp only [g1, Bool.true_and] at HE
          cases g2 : (decide ((0 : Int) ≤ m)) with
          | false =>
            simp only [g2, Bool.false_and] at HE
            go_enter Tryz.func112, Tryz.ntmps112
            go_wp2_with (first | (go_at_call 161; refine (HN.out _).mono ?_; rintro e w1 ⟨rfl, hb⟩; have B1 := (Blk.new w 30 #[.int .i64 2, .int .i64 n, .int .i64 m, .int .i64 kind, .int .i64 lk, .int .i64 ln, .string ls, .slice A a c, .slice R r d]).below hb (by simp); have b7 := B1.cell 7; have b0 := B1.cell 0; simp only [List.getElem?_toArray, List.getElem?_cons_succ, List.getElem?_cons_zero] at b7 b0; clear B1) | (go_at_call 162; refine (HL.out _).mono ?_; rintro e w1 ⟨rfl, hb⟩; have B1 := (Blk.new w 30 #[.int .i64 2, .int .i64 n, .int .i64 m, .int .i64 kind, .int .i64 lk, .int .i64 ln, .string ls, .slice A a c, .slice R r d]).below hb (by simp); have b7 := B1.cell 7; have b0 := B1.cell 0; simp only [List.getElem?_toArray, List.getElem?_cons_succ, List.getElem?_cons_zero] at b7 b0; clear B1) | (go_at_call 163; refine (HT.out _ (thn (al (Below.refl _ _) _) hb)).mono ?_; rintro e w2 ⟨rfl, rfl⟩))
            go_ret
            exact ⟨by rw [HE.out]; rfl, al (Below.refl _ _) _⟩
          | true =>
            simp only [g2, Bool.true_and] at HE
            cases qn with
            | false =>
              simp only [Bool.false_and] at HE
              go_enter Tryz.func112, Tryz.ntmps112
              go_wp2_with (first | (go_at_call 161; refine (HN.out _).mono ?_; rintro e w1 ⟨rfl, hb⟩; have B1 := (Blk.new w 30 #[.int .i64 2, .int .i64 n, .int .i64 m, .int .i64 kind, .int .i64 lk, .int .i64 ln, .string ls, .slice A a c, .slice R r d]).below hb (by simp); have b7 := B1.cell 7; have b0 := B1.cell 0; simp only [List.getElem?_toArray, List.getElem?_cons_succ, List.getElem?_cons_zero] at b7 b0; clear B1) | (go_at_call 162; refine (HL.out _).mono ?_; rintro e w1 ⟨rfl, hb⟩; have B1 := (Blk.new w 30 #[.int .i64 2, .int .i64 n, .int .i64 m, .int .i64 kind, .int .i64 lk, .int .i64 ln, .string ls, .slice A a c, .slice R r d]).below hb (by simp); have b7 := B1.cell 7; have b0 := B1.cell 0; simp only [List.getElem?_toArray, List.getElem?_cons_succ, List.getElem?_cons_zero] at b7 b0; clear B1) | (go_at_call 163; refine (HT.out _ (thn (al (Below.refl _ _) _) hb)).mono ?_; rintro e w2 ⟨rfl, rfl⟩))
              go_ret
              exact ⟨by rw [HE.out]; rfl, thn (al (Below.refl _ _) _) hb⟩
            | true =>
              simp only [Bool.true_and] at HE
              go_enter Tryz.func112, Tryz.ntmps112
              go_wp2_with (first | (go_at_call 161; refine (HN.out _).mono ?_; rintro e w1 ⟨rfl, hb⟩; have B1 := (Blk.new w 30 #[.int .i64 2, .int .i64 n, .int .i64 m, .int .i64 kind, .int .i64 lk, .int .i64 ln, .string ls, .slice A a c, .slice R r d]).below hb (by simp); have b7 := B1.cell 7; have b0 := B1.cell 0; simp only [List.getElem?_toArray, List.getElem?_cons_succ, List.getElem?_cons_zero] at b7 b0; clear B1) | (go_at_call 162; refine (HL.out _).mono ?_; rintro e w1 ⟨rfl, hb⟩; have B1 := (Blk.new w 30 #[.int .i64 2, .int .i64 n, .int .i64 m, .int .i64 kind, .int .i64 lk, .int .i64 ln, .string ls, .slice A a c, .slice R r d]).below hb (by simp); have b7 := B1.cell 7; have b0 := B1.cell 0; simp only [List.getElem?_toArray, List.getElem?_cons_succ, List.getElem?_cons_zero] at b7 b0; clear B1) | (go_at_call 163; refine (HT.out _ (thn (al (Below.refl _ _) _) hb)).mono ?_; rintro e w2 ⟨rfl, rfl⟩))
              go_ret
              exact ⟨by rw [HE.out, ← beq_cast]; rfl, thn (al (Below.refl _ _) _) hb⟩
      · have e2 : (op == 2) = false := beq_eq_false_iff_ne.2 o2
        by_cases o3 : op = 3
        · subst o3
          rw [if_pos rfl] at HE
          cases g1 : (n == 0) with
          | false =>
            simp only [g1, Bool.false_and] at HE
            go_enter Tryz.func112, Tryz.ntmps112
            go_wp2_with (first | (go_at_call 161; refine (HN.out _).mono ?_; rintro e w1 ⟨rfl, hb⟩; have B1 := (Blk.new w 30 #[.int .i64 3, .int .i64 n, .int .i64 m, .int .i64 kind, .int .i64 lk, .int .i64 ln, .string ls, .slice A a c, .slice R r d]).below hb (by simp); have b7 := B1.cell 7; have b0 := B1.cell 0; simp only [List.getElem?_toArray, List.getElem?_cons_succ, List.getElem?_cons_zero] at b7 b0; clear B1) | (go_at_call 162; refine (HL.out _).mono ?_; rintro e w1 ⟨rfl, hb⟩; have B1 := (Blk.new w 30 #[.int .i64 3, .int .i64 n, .int .i64 m, .int .i64 kind, .int .i64 lk, .int .i64 ln, .string ls, .slice A a c, .slice R r d]).below hb (by simp); have b7 := B1.cell 7; have b0 := B1.cell 0; simp only [List.getElem?_toArray, List.getElem?_cons_succ, List.getElem?_cons_zero] at b7 b0; clear B1) | (go_at_call 163; refine (HT.out _ (thn (al (Below.refl _ _) _) hb)).mono ?_; rintro e w2 ⟨rfl, rfl⟩))
            go_ret
            exact ⟨by rw [HE.out]; rfl, al (Below.refl _ _) _⟩
          | true =>
            simp only [g1, Bool.true_and] at HE
            cases g2 : (m == 0) with
            | false =>
              simp only [g2, Bool.false_and] at HE
              go_enter Tryz.func112, Tryz.ntmps112
              go_wp2_with (first | (go_at_call 161; refine (HN.out _).mono ?_; rintro e w1 ⟨rfl, hb⟩; have B1 := (Blk.new w 30 #[.int .i64 3, .int .i64 n, .int .i64 m, .int .i64 kind, .int .i64 lk, .int .i64 ln, .string ls, .slice A a c, .slice R r d]).below hb (by simp); have b7 := B1.cell 7; have b0 := B1.cell 0; simp only [List.getElem?_toArray, List.getElem?_cons_succ, List.getElem?_cons_zero] at b7 b0; clear B1) | (go_at_call 162; refine (HL.out _).mono ?_; rintro e w1 ⟨rfl, hb⟩; have B1 := (Blk.new w 30 #[.int .i64 3, .int .i64 n, .int .i64 m, .int .i64 kind, .int .i64 lk, .int .i64 ln, .string ls, .slice A a c, .slice R r d]).below hb (by simp); have b7 := B1.cell 7; have b0 := B1.cell 0; simp only [List.getElem?_toArray, List.getElem?_cons_succ, List.getElem?_cons_zero] at b7 b0; clear B1) | (go_at_call 163; refine (HT.out _ (thn (al (Below.refl _ _) _) hb)).mono ?_; rintro e w2 ⟨rfl, rfl⟩))
              go_ret
              exact ⟨by rw [HE.out]; rfl, al (Below.refl _ _) _⟩
            | true =>
              simp only [g2, Bool.true_and] at HE
              cases ql with
              | false =>
                simp only [Bool.false_and] at HE
                go_enter Tryz.func112, Tryz.ntmps112
                go_wp2_with (first | (go_at_call 161; refine (HN.out _).mono ?_; rintro e w1 ⟨rfl, hb⟩; have B1 := (Blk.new w 30 #[.int .i64 3, .int .i64 n, .int .i64 m, .int .i64 kind, .int .i64 lk, .int .i64 ln, .string ls, .slice A a c, .slice R r d]).below hb (by simp); have b7 := B1.cell 7; have b0 := B1.cell 0; simp only [List.getElem?_toArray, List.getElem?_cons_succ, List.getElem?_cons_zero] at b7 b0; clear B1) | (go_at_call 162; refine (HL.out _).mono ?_; rintro e w1 ⟨rfl, hb⟩; have B1 := (Blk.new w 30 #[.int .i64 3, .int .i64 n, .int .i64 m, .int .i64 kind, .int .i64 lk, .int .i64 ln, .string ls, .slice A a c, .slice R r d]).below hb (by simp); have b7 := B1.cell 7; have b0 := B1.cell 0; simp only [List.getElem?_toArray, List.getElem?_cons_succ, List.getElem?_cons_zero] at b7 b0; clear B1) | (go_at_call 163; refine (HT.out _ (thn (al (Below.refl _ _) _) hb)).mono ?_; rintro e w2 ⟨rfl, rfl⟩))
                go_ret
                exact ⟨by rw [HE.out]; rfl, thn (al (Below.refl _ _) _) hb⟩
              | true =>
                simp only [Bool.true_and] at HE
                go_enter Tryz.func112, Tryz.ntmps112
                go_wp2_with (first | (go_at_call 161; refine (HN.out _).mono ?_; rintro e w1 ⟨rfl, hb⟩; have B1 := (Blk.new w 30 #[.int .i64 3, .int .i64 n, .int .i64 m, .int .i64 kind, .int .i64 lk, .int .i64 ln, .string ls, .slice A a c, .slice R r d]).below hb (by simp); have b7 := B1.cell 7; have b0 := B1.cell 0; simp only [List.getElem?_toArray, List.getElem?_cons_succ, List.getElem?_cons_zero] at b7 b0; clear B1) | (go_at_call 162; refine (HL.out _).mono ?_; rintro e w1 ⟨rfl, hb⟩; have B1 := (Blk.new w 30 #[.int .i64 3, .int .i64 n, .int .i64 m, .int .i64 kind, .int .i64 lk, .int .i64 ln, .string ls, .slice A a c, .slice R r d]).below hb (by simp); have b7 := B1.cell 7; have b0 := B1.cell 0; simp only [List.getElem?_toArray, List.getElem?_cons_succ, List.getElem?_cons_zero] at b7 b0; clear B1) | (go_at_call 163; refine (HT.out _ (thn (al (Below.refl _ _) _) hb)).mono ?_; rintro e w2 ⟨rfl, rfl⟩))
                go_ret
                exact ⟨by rw [HE.out, ← beq_cast]; rfl, thn (al (Below.refl _ _) _) hb⟩
        · have e3 : (op == 3) = false := beq_eq_false_iff_ne.2 o3
          rw [if_neg o3, if_neg o1, if_neg o2] at HE
          clear o1 o2 o3
          cases g1 : (n == 0) with
          | false =>
            simp only [g1, Bool.false_and] at HE
            go_enter Tryz.func112, Tryz.ntmps112
            go_wp2_with (first | (go_at_call 161; refine (HN.out _).mono ?_; rintro e w1 ⟨rfl, hb⟩; have B1 := (Blk.new w 30 #[.int .i64 op, .int .i64 n, .int .i64 m, .int .i64 kind, .int .i64 lk, .int .i64 ln, .string ls, .slice A a c, .slice R r d]).below hb (by simp); have b7 := B1.cell 7; have b0 := B1.cell 0; simp only [List.getElem?_toArray, List.getElem?_cons_succ, List.getElem?_cons_zero] at b7 b0; clear B1) | (go_at_call 162; refine (HL.out _).mono ?_; rintro e w1 ⟨rfl, hb⟩; have B1 := (Blk.new w 30 #[.int .i64 op, .int .i64 n, .int .i64 m, .int .i64 kind, .int .i64 lk, .int .i64 ln, .string ls, .slice A a c, .slice R r d]).below hb (by simp); have b7 := B1.cell 7; have b0 := B1.cell 0; simp only [List.getElem?_toArray, List.getElem?_cons_succ, List.getElem?_cons_zero] at b7 b0; clear B1) | (go_at_call 163; refine (HT.out _ (thn (al (Below.refl _ _) _) hb)).mono ?_; rintro e w2 ⟨rfl, rfl⟩))
            go_ret
            exact ⟨by rw [HE.out]; rfl, al (Below.refl _ _) _⟩
          | true =>
            simp only [g1, Bool.true_and] at HE
            cases g2 : (m == 0) with
            | false =>
              simp only [g2, Bool.false_and] at HE
              go_enter Tryz.func112, Tryz.ntmps112
              go_wp2_with (first | (go_at_call 161; refine (HN.out _).mono ?_; rintro e w1 ⟨rfl, hb⟩; have B1 := (Blk.new w 30 #[.int .i64 op, .int .i64 n, .int .i64 m, .int .i64 kind, .int .i64 lk, .int .i64 ln, .string ls, .slice A a c, .slice R r d]).below hb (by simp); have b7 := B1.cell 7; have b0 := B1.cell 0; simp only [List.getElem?_toArray, List.getElem?_cons_succ, List.getElem?_cons_zero] at b7 b0; clear B1) | (go_at_call 162; refine (HL.out _).mono ?_; rintro e w1 ⟨rfl, hb⟩; have B1 := (Blk.new w 30 #[.int .i64 op, .int .i64 n, .int .i64 m, .int .i64 kind, .int .i64 lk, .int .i64 ln, .string ls, .slice A a c, .slice R r d]).below hb (by simp); have b7 := B1.cell 7; have b0 := B1.cell 0; simp only [List.getElem?_toArray, List.getElem?_cons_succ, List.getElem?_cons_zero] at b7 b0; clear B1) | (go_at_call 163; refine (HT.out _ (thn (al (Below.refl _ _) _) hb)).mono ?_; rintro e w2 ⟨rfl, rfl⟩))
              go_ret
              exact ⟨by rw [HE.out]; rfl, al (Below.refl _ _) _⟩
            | true =>
              simp only [g2, Bool.true_and] at HE
              cases qn with
              | false =>
                simp only [Bool.false_and] at HE
                go_enter Tryz.func112, Tryz.ntmps112
                go_wp2_with (first | (go_at_call 161; refine (HN.out _).mono ?_; rintro e w1 ⟨rfl, hb⟩; have B1 := (Blk.new w 30 #[.int .i64 op, .int .i64 n, .int .i64 m, .int .i64 kind, .int .i64 lk, .int .i64 ln, .string ls, .slice A a c, .slice R r d]).below hb (by simp); have b7 := B1.cell 7; have b0 := B1.cell 0; simp only [List.getElem?_toArray, List.getElem?_cons_succ, List.getElem?_cons_zero] at b7 b0; clear B1) | (go_at_call 162; refine (HL.out _).mono ?_; rintro e w1 ⟨rfl, hb⟩; have B1 := (Blk.new w 30 #[.int .i64 op, .int .i64 n, .int .i64 m, .int .i64 kind, .int .i64 lk, .int .i64 ln, .string ls, .slice A a c, .slice R r d]).below hb (by simp); have b7 := B1.cell 7; have b0 := B1.cell 0; simp only [List.getElem?_toArray, List.getElem?_cons_succ, List.getElem?_cons_zero] at b7 b0; clear B1) | (go_at_call 163; refine (HT.out _ (thn (al (Below.refl _ _) _) hb)).mono ?_; rintro e w2 ⟨rfl, rfl⟩))
                go_ret
                exact ⟨by rw [HE.out]; rfl, thn (al (Below.refl _ _) _) hb⟩
              | true =>
                simp only [Bool.true_and] at HE
                go_enter Tryz.func112, Tryz.ntmps112
                go_wp2_with (first | (go_at_call 161; refine (HN.out _).mono ?_; rintro e w1 ⟨rfl, hb⟩; have B1 := (Blk.new w 30 #[.int .i64 op, .int .i64 n, .int .i64 m, .int .i64 kind, .int .i64 lk, .int .i64 ln, .string ls, .slice A a c, .slice R r d]).below hb (by simp); have b7 := B1.cell 7; have b0 := B1.cell 0; simp only [List.getElem?_toArray, List.getElem?_cons_succ, List.getElem?_cons_zero] at b7 b0; clear B1) | (go_at_call 162; refine (HL.out _).mono ?_; rintro e w1 ⟨rfl, hb⟩; have B1 := (Blk.new w 30 #[.int .i64 op, .int .i64 n, .int .i64 m, .int .i64 kind, .int .i64 lk, .int .i64 ln, .string ls, .slice A a c, .slice R r d]).below hb (by simp); have b7 := B1.cell 7; have b0 := B1.cell 0; simp only [List.getElem?_toArray, List.getElem?_cons_succ, List.getElem?_cons_zero] at b7 b0; clear B1) | (go_at_call 163; refine (HT.out _ (thn (al (Below.refl _ _) _) hb)).mono ?_; rintro e w2 ⟨rfl, rfl⟩))
                go_ret
                exact ⟨by rw [HE.out]; rfl, thn (al (Below.refl _ _) _) hb⟩
  · have hr2 : decide ((0 : Int) < (r : Int)) = true := decide_eq_true (by omega)
    have hr3 : (r == 0) = false := by simp [hr]
    have hr5 : 0 < r := by omega
    clear hr
    simp only [hr3, Bool.false_and] at HE
    go_enter Tryz.func112, Tryz.ntmps112
    go_wp2_with (first | (go_at_call 161; refine (HN.out _).mono ?_; rintro e w1 ⟨rfl, hb⟩; have B1 := (Blk.new w 30 #[.int .i64 op, .int .i64 n, .int .i64 m, .int .i64 kind, .int .i64 lk, .int .i64 ln, .string ls, .slice A a c, .slice R r d]).below hb (by simp); have b7 := B1.cell 7; have b0 := B1.cell 0; simp only [List.getElem?_toArray, List.getElem?_cons_succ, List.getElem?_cons_zero] at b7 b0; clear B1) | (go_at_call 162; refine (HL.out _).mono ?_; rintro e w1 ⟨rfl, hb⟩; have B1 := (Blk.new w 30 #[.int .i64 op, .int .i64 n, .int .i64 m, .int .i64 kind, .int .i64 lk, .int .i64 ln, .string ls, .slice A a c, .slice R r d]).below hb (by simp); have b7 := B1.cell 7; have b0 := B1.cell 0; simp only [List.getElem?_toArray, List.getElem?_cons_succ, List.getElem?_cons_zero] at b7 b0; clear B1) | (go_at_call 163; refine (HT.out _ (thn (al (Below.refl _ _) _) hb)).mono ?_; rintro e w2 ⟨rfl, rfl⟩))
    go_ret
    exact ⟨by rw [HE.out]; rfl, al (Below.refl _ _) _⟩
end Go.Proofs.YtdiehgfldndgbaaGreatDoor
namespace Go.Proofs.YtdiehgfldndgbaaGreatDoor
open Go.RowKit Go.Deep

/-- behind a call that writes one block of old memory alone -/
abbrev But (g : Nat) (w w' : World) : Prop := w.grownBy w' (some g)
theorem But.of {g : Nat} {w w' : World} (h : Below w.heap.size w w') : But g w w' := ⟨h.os, h.tape, h.output, h.size, fun i hi _ => h.block i hi⟩
theorem But.thn {g : Nat} {a w w' : World} (h : But g a w) (k : But g w w') : But g a w' := h.trans k
theorem But.al {g : Nat} {w w' : World} (h : But g w w') (o : Obj) : But g w (w'.alloc o) := h.trans (World.grownBy_alloc w' o _)
theorem But.set {g : Nat} {w w' : World} (h : But g w w') (i : Nat) (v : Value) : But g w (w'.setCell ⟨g, i, none⟩ v) := h.trans (grown_set w' g i v)
theorem GS.but {g : Nat} {w w' : World} (h : GS w) (hb : But g w w') (hg : 2 ≤ g) : GS w' where
  shp := fun m h4 h25 => by
    have k : ∀ o, w'.cell? ⟨0, o, none⟩ = w.cell? ⟨0, o, none⟩ := fun o => World.cell?_of_block (a := ⟨0, o, none⟩) (hb.block 0 (by have := h.lo; omega) (by intro e; injection e with e; omega))
    rw [k, k, k, k, k]
    exact h.shp m h4 h25
  knd := fun n h1 h3 => (World.cell?_of_block (a := ⟨1, n, none⟩) (hb.block 1 (by have := h.lo; omega) (by intro e; injection e with e; omega))).trans (h.knd n h1 h3)
  lo := Nat.le_trans h.lo hb.size
/-- blocks of a heap of this size but one -/
abbrev No (B g : Nat) : Nat → Prop := fun b => b < B ∧ b ≠ g
theorem LOk.but {g : Nat} {w w' : World} {A : Option Addr} {l : List E} (h : LOk w (No w.heap.size g) A l) (hb : But g w w') : LOk w' (No w'.heap.size g) A l :=
  h.kept (fun b hb2 => hb.block b hb2.1 (by intro e; injection e with e; exact hb2.2 e)) fun _ h => ⟨Nat.lt_of_lt_of_le h.1 hb.size, h.2⟩
/-- the form of what is as deep as it says, where so many nodes have been counted -/
def hasB (d n : Nat) (e : E) : Bool := shapedE (25 - d) e && decide (n + nodesE e ≤ 400)
theorem fitX.str {e : E} (h : fitX e) : e.lit.s.size ≤ maxLen := (fitX_mk.1 h).1
theorem nodesL_snoc : ∀ (l : List E) (e : E), nodesL (l ++ [e]) = nodesL l + nodesE e
  | [], e => by simp [nodesL]
  | x :: l, e => by
    have := nodesL_snoc l e
    rw [List.cons_append, nodesL, nodesL, this]; omega
set_option maxHeartbeats 4000000 in
set_option maxRecDepth 100000 in
theorem hasForm_any : ∀ (k : Nat) (e : E) (A R : Option Addr) (c q d n g : Nat) (w : World), nodesE e < k → k ≤ 1000000 → fitX e → d ≤ 25 → n ≤ 400 → 2 ≤ g → GS w → LOk w (No w.heap.size g) A e.args → Blk w g 3 #[.int .i64 n] →
    Calls Tryz.prog 73 #[e.val A c R q, .int .i64 d, .pointer (some ⟨g, 0, none⟩)] w fun x w' => x = .returned (.bool (hasB d n e)) ∧ But g w w' ∧ ∃ m : Nat, Blk w' g 3 #[.int .i64 m] ∧ (hasB d n e = true → m = n + nodesE e) := by
  intro k
  induction k with
  | zero => intro e A R c q d n g w h; exact absurd h (Nat.not_lt_zero _)
  | succ k ih =>
    intro e A R c q d n g w hk hk1 hf hd hn hg2 hG hA hB
    have IH := Lib.hid ih
    have HA := Lib.hid (And.intro hA (And.intro hG (And.intro hB hf)))
    have c0 := hB.cell 0
    have f0 := hB.frozen 0
    have hlt := hB.lt
    simp only [List.getElem?_toArray, List.getElem?_cons_zero] at c0
    have hnE := nodesE_args e
    have hl := nodesL_len e.args
    clear ih hA hG hB hf
    have HI : Hid (∀ w1, But g w w1 → Calls Tryz.prog 112 #[e.val A c R q] w1 fun x w' => x = .returned (.bool e.node) ∧ Below w1.heap.size w1 w') := Lib.hid fun w1 h1 => isNode_any e A R c q w1 (HA.out.2.1.but h1 hg2) (fitX.str HA.out.2.2.2) (by omega)
    unfold E.val at HI ⊢
    go_enter Tryz.func73, Tryz.ntmps73
    go_upto_region 2 with fail
    have HW : Hid (But g w ((w.setCell ⟨g, 0, none⟩ (.int .i64 ((n : Int) + 1))).alloc (.cells #[.int .i64 e.op, .int .i64 e.n, .int .i64 e.m, .int .i64 e.kind, .int .i64 e.lit.k, .int .i64 e.lit.n, .string e.lit.s, .slice A e.args.length c, .slice R e.rels.length q] 30)) ∧ Blk ((w.setCell ⟨g, 0, none⟩ (.int .i64 ((n : Int) + 1))).alloc (.cells #[.int .i64 e.op, .int .i64 e.n, .int .i64 e.m, .int .i64 e.kind, .int .i64 e.lit.k, .int .i64 e.lit.n, .string e.lit.s, .slice A e.args.length c, .slice R e.rels.length q] 30)) g 3 #[.int .i64 ((n + 1 : Nat) : Int)] ∧ Blk ((w.setCell ⟨g, 0, none⟩ (.int .i64 ((n : Int) + 1))).alloc (.cells #[.int .i64 e.op, .int .i64 e.n, .int .i64 e.m, .int .i64 e.kind, .int .i64 e.lit.k, .int .i64 e.lit.n, .string e.lit.s, .slice A e.args.length c, .slice R e.rels.length q] 30)) w.heap.size 30 #[.int .i64 e.op, .int .i64 e.n, .int .i64 e.m, .int .i64 e.kind, .int .i64 e.lit.k, .int .i64 e.lit.n, .string e.lit.s, .slice A e.args.length c, .slice R e.rels.length q]) :=
      Lib.hid ⟨((World.grownBy.refl w _).trans (grown_set w g 0 _)).trans (World.grownBy_alloc _ _ _), (HA.out.2.2.1.set_ 0 _).alloc _, Blk.new' (by simp)⟩
    have HS := Lib.hid (shapedE_succ (24 - d) e)
    obtain ⟨W1, hW1⟩ : ∃ W1, W1 = ((w.setCell ⟨g, 0, none⟩ (.int .i64 ((n : Int) + 1))).alloc (.cells #[.int .i64 e.op, .int .i64 e.n, .int .i64 e.m, .int .i64 e.kind, .int .i64 e.lit.k, .int .i64 e.lit.n, .string e.lit.s, .slice A e.args.length c, .slice R e.rels.length q] 30)) := ⟨_, rfl⟩
    rw [← hW1] at HW ⊢
    clear hW1 c0 f0
    have hB1 := HW.out.2.2
    have c0 : W1.cell? ⟨g, 0, none⟩ = some (.int .i64 ((n : Int) + 1)) := by
      have := HW.out.2.1.cell 0
      simpa using this
    have z0 := hB1.cell 0
    have z1 := hB1.cell 1
    have z2 := hB1.cell 2
    have z3 := hB1.cell 3
    have z4 := hB1.cell 4
    have z5 := hB1.cell 5
    have z6 := hB1.cell 6
    have z7 := hB1.cell 7
    have z8 := hB1.cell 8
    simp only [List.getElem?_toArray, List.getElem?_cons_succ, List.getElem?_cons_zero] at z0 z1 z2 z3 z4 z5 z6 z7 z8
    clear hB1
    by_cases h400 : n + 1 ≤ 400
    · have h4i : ¬ ((400 : Int) < (n : Int) + 1) := by omega
      by_cases h24 : d ≤ 24
      · have h2i : ¬ ((24 : Int) < (d : Int)) := by omega
        have hdd : 25 - d = 24 - d + 1 := by omega
        cases hnode : e.node with
        | false =>
          have HE : Hid (hasB d n e = false) := Lib.hid (by unfold hasB; rw [hdd, HS.out, hnode]; rfl)
          rw [hnode] at HI
          go_wp2_with (go_at_call 112; refine (HI.out _ HW.out.1).mono ?_; rintro x w2 ⟨rfl, hb2⟩)
          go_ret
          exact ⟨by rw [HE.out]; rfl, HW.out.1.thn (But.of hb2), n + 1, HW.out.2.1.below hb2 HW.out.2.1.lt, fun h => absurd (HE.out.symm.trans h) (by decide)⟩
        | true =>
          rw [hnode] at HI
          have HE : Hid (hasB d n e = (shapedL (24 - d) e.args && decide (n + nodesE e ≤ 400))) := Lib.hid (by unfold hasB; rw [hdd, HS.out, hnode]; rfl)
          go_upto_region 4 with (go_at_call 112; refine (HI.out _ HW.out.1).mono ?_; rintro x w2 ⟨rfl, hb2⟩)
          have HW2 : Hid (But g w w2 ∧ Blk w2 g 3 #[.int .i64 ((n + 1 : Nat) : Int)]) := Lib.hid ⟨HW.out.1.thn (But.of hb2), HW.out.2.1.below hb2 HW.out.2.1.lt⟩
          have y7 := (HW.out.2.2.below hb2 HW.out.2.2.lt).cell 7
          simp only [List.getElem?_toArray, List.getElem?_cons_succ, List.getElem?_cons_zero] at y7
          clear hb2 z0 z1 z2 z3 z4 z5 z6 z7 z8 c0
          go_wp2_with fail
          go_loopw [30] (fun iv wr => ∃ j : Nat, j ≤ e.args.length ∧ iv = .int .i64 j ∧ Hid (But g w wr ∧ Blk wr g 3 #[.int .i64 ((n + 1 + nodesL (e.args.take j) : Nat) : Int)]) ∧ Hid (shapedL (24 - d) (e.args.take j) = true ∧ n + 1 + nodesL (e.args.take j) ≤ 400)) (fun iv _ => e.args.length - (intOf iv).toNat)
          case atStart => exact ⟨0, Nat.zero_le _, rfl, ⟨HW2.out.1, by simpa [nodesL] using HW2.out.2⟩, by simp [shapedL], by simpa [nodesL] using h400⟩
          case round =>
            obtain ⟨j, hj, rfl, HC, HT⟩ := hrel
            by_cases hlt : j < e.args.length
            · have hlti : (j : Int) < (e.args.length : Int) := by omega
              obtain ⟨b, o, rfl, hb, he⟩ := (HA.out.1.but HC.out.1).at_ hlt
              obtain ⟨z0, z1, z2, z3, z4, z5, z6, ⟨A', c', z7, z8⟩, R', d', z9, z10⟩ := EOk.mk_.1 he
              have x0 : wr.cell? ⟨b, o + j * 9, none⟩ = some (.int .i64 e.args[j].op) := z0
              have x1 : wr.cell? ⟨b, o + j * 9 + 1, none⟩ = some (.int .i64 e.args[j].n) := z1
              have x2 : wr.cell? ⟨b, o + j * 9 + 2, none⟩ = some (.int .i64 e.args[j].m) := z2
              have x3 : wr.cell? ⟨b, o + j * 9 + 3, none⟩ = some (.int .i64 e.args[j].kind) := z3
              have x4 : wr.cell? ⟨b, o + j * 9 + 4, none⟩ = some (.int .i64 e.args[j].lit.k) := z4
              have x5 : wr.cell? ⟨b, o + j * 9 + 5, none⟩ = some (.int .i64 e.args[j].lit.n) := z5
              have x6 : wr.cell? ⟨b, o + j * 9 + 6, none⟩ = some (.string e.args[j].lit.s) := z6
              have x7 : wr.cell? ⟨b, o + j * 9 + 7, none⟩ = some ((.slice A' e.args[j].args.length c')) := z7
              have x8 : wr.cell? ⟨b, o + j * 9 + 8, none⟩ = some ((.slice R' e.args[j].rels.length d')) := z9
              have hm := nodesL_mem (List.getElem_mem hlt)
              have hsz : nodesE e.args[j] < k := by omega
              have hfj : fitX e.args[j] := fitXL.mem (fitX_mk.1 HA.out.2.2.2).2.2 _ (List.getElem_mem hlt)
              have HK : Hid (∀ ob, Calls Tryz.prog 73 #[e.args[j].val A' c' R' d', .int .i64 ((d : Int) + 1), .pointer (some ⟨g, 0, none⟩)] (wr.alloc ob) fun x w' => x = .returned (.bool (hasB (d + 1) (n + 1 + nodesL (e.args.take j)) e.args[j])) ∧ But g (wr.alloc ob) w' ∧ ∃ m : Nat, Blk w' g 3 #[.int .i64 m] ∧ (hasB (d + 1) (n + 1 + nodesL (e.args.take j)) e.args[j] = true → m = n + 1 + nodesL (e.args.take j) + nodesE e.args[j])) := Lib.hid fun ob => by
                have hbt : But g wr (wr.alloc ob) := World.grownBy_alloc wr ob _
                rw [show ((d : Int) + 1) = ((d + 1 : Nat) : Int) from by omega]
                exact IH.out _ A' R' c' d' (d + 1) _ g (wr.alloc ob) hsz (by omega) hfj (by omega) HT.out.2 hg2 (HA.out.2.1.but (HC.out.1.thn hbt) hg2) (z8.but hbt) (HC.out.2.alloc ob)
              have hsn := nodesL_snoc (e.args.take j) e.args[j]
              have HTk := Lib.hid (List.take_succ_eq_append_getElem hlt)
              rw [← HTk.out] at hsn
              have hle := nodesL_take e.args (j + 1)
              have HSt := Lib.hid (shapedL_take (24 - d) e.args j hlt HT.out.1)
              have HSp := Lib.hid (shapedL_stop (24 - d) e.args j hlt)
              have HBd : Hid (hasB (d + 1) (n + 1 + nodesL (e.args.take j)) e.args[j] = (shapedE (24 - d) e.args[j] && decide (n + 1 + nodesL (e.args.take j) + nodesE e.args[j] ≤ 400))) := Lib.hid (by unfold hasB; rw [show 25 - (d + 1) = 24 - d by omega])
              clear z0 z1 z2 z3 z4 z5 z6 z7 z9 he z8 z10 hfj
              cases hq : hasB (d + 1) (n + 1 + nodesL (e.args.take j)) e.args[j] with
              | false =>
                have HF : Hid (hasB d n e = false) := Lib.hid (by
                  rw [HE.out]
                  rw [hq] at HBd
                  have h1 := HBd.out
                  cases hsh : shapedE (24 - d) e.args[j] with
                  | false => rw [HSp.out hsh]; rfl
                  | true =>
                    rw [hsh, Bool.true_and] at h1
                    have h2 := of_decide_eq_false h1.symm
                    rw [decide_eq_false (by omega)]; simp)
                rw [hq] at HK
                generalize e.args[j] = ej at *
                unfold E.val at HK
                go_wp2_with (go_at_call 73; refine (HK.out _).mono ?_; rintro x w3 ⟨rfl, hb3, m, hm3, -⟩)
                go_ret
                exact ⟨by rw [HF.out]; rfl, (HC.out.1.al _).thn hb3, m, hm3, fun h => absurd (HF.out.symm.trans h) (by decide)⟩
              | true =>
                have h1 : shapedE (24 - d) e.args[j] = true ∧ n + 1 + nodesL (e.args.take j) + nodesE e.args[j] ≤ 400 := by
                  have h1 := HBd.out
                  rw [hq] at h1
                  have h2 := h1.symm
                  rw [Bool.and_eq_true] at h2
                  exact ⟨h2.1, of_decide_eq_true h2.2⟩
                have HN : Hid (shapedL (24 - d) (e.args.take (j + 1)) = true ∧ n + 1 + nodesL (e.args.take (j + 1)) ≤ 400) := Lib.hid ⟨by rw [HSt.out, h1.1], by omega⟩
                rw [hq] at HK
                have HSN := Lib.hid hsn
                clear h1 hsn hle hm
                generalize e.args[j] = ej at *
                unfold E.val at HK
                go_wp2_with (go_at_call 73; refine (HK.out _).mono ?_; rintro x w3 ⟨rfl, hb3, m, hm3, hm4⟩)
                have HN2 : Hid (But g w w3 ∧ Blk w3 g 3 #[.int .i64 ((n + 1 + nodesL (e.args.take (j + 1)) : Nat) : Int)]) := Lib.hid ⟨(HC.out.1.al _).thn hb3, by
                  have e1 : m = n + 1 + nodesL (e.args.take (j + 1)) := by rw [hm4 trivial, HSN.out]; omega
                  rw [← e1]; exact hm3⟩
                clear hb3 hm3 hm4
                exact ⟨⟨j + 1, by omega, by go_num, HN2, HN⟩, by simp [intOf]; omega⟩
            · have hlf : decide ((j : Int) < (e.args.length : Int)) = false := decide_eq_false (by omega)
              have htk : e.args.take j = e.args := List.take_of_length_le (by omega)
              have HF : Hid (hasB d n e = true ∧ n + 1 + nodesL (e.args.take j) = n + nodesE e) := Lib.hid (by
                have h := HT.out
                rw [htk] at h ⊢
                exact ⟨by rw [HE.out, h.1, decide_eq_true (by omega)]; rfl, by omega⟩)
              go_wp2_with fail
              go_ret
              exact ⟨by rw [HF.out.1]; rfl, HC.out.1, _, HC.out.2, fun _ => HF.out.2⟩
      · have h2i : (24 : Int) < (d : Int) := by omega
        have HE : Hid (hasB d n e = false) := Lib.hid (by unfold hasB; rw [show 25 - d = 0 by omega, shapedE_zero]; rfl)
        go_wp2_with fail
        go_ret
        exact ⟨by rw [HE.out]; rfl, HW.out.1, n + 1, HW.out.2.1, fun h => absurd (HE.out.symm.trans h) (by decide)⟩
    · have h4i : (400 : Int) < (n : Int) + 1 := by omega
      have HE : Hid (hasB d n e = false) := Lib.hid (by unfold hasB; rw [decide_eq_false (by omega)]; simp)
      go_wp2_with fail
      go_ret
      exact ⟨by rw [HE.out]; rfl, HW.out.1, n + 1, HW.out.2.1, fun h => absurd (HE.out.symm.trans h) (by decide)⟩
end Go.Proofs.YtdiehgfldndgbaaGreatDoor
namespace Go.Proofs.YtdiehgfldndgbaaGreatDoor
open Go.RowKit Go.Deep

theorem hasB_one (e : E) : hasB 1 0 e = formE e := by unfold hasB formE; rw [Nat.zero_add]
/-- the error of an expression -/
def ckE (e : E) : Int := if formE e = true then 0 else 30
/-- a list, in blocks below a heap's size -/
theorem LOk.no {w w' : World} {A : Option Addr} {l : List E} {g : Nat} (h : LOk w (Lo w.heap.size) A l) (hb : Below w.heap.size w w') (hg : w.heap.size ≤ g) : LOk w' (No w'.heap.size g) A l :=
  h.kept (fun b h => hb.block b h) fun _ h => ⟨Nat.lt_of_lt_of_le h hb.size, by have : _ < w.heap.size := h; omega⟩
set_option maxHeartbeats 1000000 in
set_option maxRecDepth 100000 in
theorem CheckE_any (e : E) (A R : Option Addr) (c d : Nat) (w : World) (hn : nodesE e < 1000000) (hf : fitX e) (hG : GS w) (hA : LOk w (Lo w.heap.size) A e.args) :
    Calls Tryz.prog 33 #[e.val A c R d] w fun x w' => x = .returned (.int .i64 (ckE e)) ∧ Below w.heap.size w w' := by
  have HE := Lib.hid (hasB_one e)
  have HA := Lib.hid (And.intro hA (And.intro hG hf))
  have hH := fun w' (h : LOk w' (No w'.heap.size (w.heap.size + 1)) A e.args) (hG' : GS w') (hB : Blk w' (w.heap.size + 1) 3 #[.int .i64 ((0 : Nat) : Int)]) => hasForm_any 1000000 e A R c d 1 0 (w.heap.size + 1) w' hn (Nat.le_refl _) hf (by decide) (by decide) (by have := hG.lo; omega) hG' h hB
  unfold E.val at hH ⊢
  cases hq : formE e with
  | false =>
    have HC : Hid (ckE e = 30) := Lib.hid (by unfold ckE; rw [hq]; rfl)
    rw [HE.out, hq] at hH
    have HH := Lib.hid hH
    clear hH hA hG hf hn hq
    go_enter Tryz.func33, Tryz.ntmps33
    go_wp2_with fail
    have hb0 : Below w.heap.size w ((w.alloc (.cells #[.int .i64 e.op, .int .i64 e.n, .int .i64 e.m, .int .i64 e.kind, .int .i64 e.lit.k, .int .i64 e.lit.n, .string e.lit.s, .slice A e.args.length c, .slice R e.rels.length d] 30)).alloc (.cells #[.int .i64 0] 3)) := al (al (Below.refl _ _) _) _
    refine (HH.out _ (HA.out.1.no hb0 (by omega)) (HA.out.2.1.thn hb0) (Blk.new' (by simp))).mono ?_
    rintro x w2 ⟨rfl, hb2, m, hm, -⟩
    have H2 := Lib.hid (hb0.grown hb2 (by simp <;> omega) (fun g hg => by injection hg with hg; omega))
    clear hb0 hb2 hm
    go_wp2_with fail
    go_ret
    exact ⟨by rw [HC.out]; rfl, H2.out⟩
  | true =>
    have HC : Hid (ckE e = 0) := Lib.hid (by unfold ckE; rw [hq]; rfl)
    rw [HE.out, hq] at hH
    have HH := Lib.hid hH
    clear hH hA hG hf hn hq
    go_enter Tryz.func33, Tryz.ntmps33
    go_wp2_with fail
    have hb0 : Below w.heap.size w ((w.alloc (.cells #[.int .i64 e.op, .int .i64 e.n, .int .i64 e.m, .int .i64 e.kind, .int .i64 e.lit.k, .int .i64 e.lit.n, .string e.lit.s, .slice A e.args.length c, .slice R e.rels.length d] 30)).alloc (.cells #[.int .i64 0] 3)) := al (al (Below.refl _ _) _) _
    refine (HH.out _ (HA.out.1.no hb0 (by omega)) (HA.out.2.1.thn hb0) (Blk.new' (by simp))).mono ?_
    rintro x w2 ⟨rfl, hb2, m, hm, -⟩
    have H2 := Lib.hid (hb0.grown hb2 (by simp <;> omega) (fun g hg => by injection hg with hg; omega))
    clear hb0 hb2 hm
    go_wp2_with fail
    go_ret
    exact ⟨by rw [HC.out]; rfl, H2.out⟩
/-- the error of a list of expressions -/
def cksE (l : List E) : Int := if l.all formE = true then 0 else 30
theorem ckE_cases (e : E) : (formE e = true ∧ ckE e = 0) ∨ (formE e = false ∧ ckE e = 30) := by
  unfold ckE
  cases formE e
  · exact .inr ⟨rfl, rfl⟩
  · exact .inl ⟨rfl, rfl⟩
set_option maxHeartbeats 1000000 in
set_option maxRecDepth 100000 in
theorem checkE_any (A : Option Addr) (c : Nat) (l : List E) (w : World) (hlen : l.length ≤ 1000000) (hn : ∀ e ∈ l, nodesE e < 1000000 ∧ fitX e) (hG : GS w) (hA : LOk w (Lo w.heap.size) A l) :
    Calls Tryz.prog 46 #[.slice A l.length c] w fun x w' => x = .returned (.int .i64 (cksE l)) ∧ Below w.heap.size w w' := by
  have HA := Lib.hid (And.intro hA (And.intro hG hn))
  clear hA hG hn
  go_enter Tryz.func46, Tryz.ntmps46
  go_wp2_with fail
  go_loopw [8] (fun iv wr => ∃ j : Nat, j ≤ l.length ∧ iv = .int .i64 j ∧ Hid (Below w.heap.size w wr) ∧ Hid ((l.take j).all formE = true)) (fun iv _ => l.length - (intOf iv).toNat)
  case atStart => exact ⟨0, Nat.zero_le _, rfl, Below.refl _ _, Lib.hid (by simp)⟩
  case round =>
    obtain ⟨j, hj, rfl, HW, HT⟩ := hrel
    by_cases hlt : j < l.length
    · have hlti : (j : Int) < (l.length : Int) := by omega
      obtain ⟨b, o, rfl, hb, he⟩ := (HA.out.1.below HW.out HW.out.size).at_ hlt
      obtain ⟨z0, z1, z2, z3, z4, z5, z6, ⟨A', c', z7, z8⟩, R', d', z9, z10⟩ := EOk.mk_.1 he
      have x0 : wr.cell? ⟨b, o + j * 9, none⟩ = some (.int .i64 l[j].op) := z0
      have x1 : wr.cell? ⟨b, o + j * 9 + 1, none⟩ = some (.int .i64 l[j].n) := z1
      have x2 : wr.cell? ⟨b, o + j * 9 + 2, none⟩ = some (.int .i64 l[j].m) := z2
      have x3 : wr.cell? ⟨b, o + j * 9 + 3, none⟩ = some (.int .i64 l[j].kind) := z3
      have x4 : wr.cell? ⟨b, o + j * 9 + 4, none⟩ = some (.int .i64 l[j].lit.k) := z4
      have x5 : wr.cell? ⟨b, o + j * 9 + 5, none⟩ = some (.int .i64 l[j].lit.n) := z5
      have x6 : wr.cell? ⟨b, o + j * 9 + 6, none⟩ = some (.string l[j].lit.s) := z6
      have x7 : wr.cell? ⟨b, o + j * 9 + 7, none⟩ = some ((.slice A' l[j].args.length c')) := z7
      have x8 : wr.cell? ⟨b, o + j * 9 + 8, none⟩ = some ((.slice R' l[j].rels.length d')) := z9
      have hnj := HA.out.2.2 l[j] (List.getElem_mem hlt)
      have HK : Hid (∀ ob, Calls Tryz.prog 33 #[l[j].val A' c' R' d'] (wr.alloc ob) fun x w' => x = .returned (.int .i64 (ckE l[j])) ∧ Below (wr.alloc ob).heap.size (wr.alloc ob) w') := Lib.hid fun ob => by
        have hbt : Below w.heap.size w (wr.alloc ob) := al HW.out _
        exact CheckE_any l[j] A' R' c' d' (wr.alloc ob) hnj.1 hnj.2 (HA.out.2.1.thn hbt) (z8.below (al (Below.refl _ _) _) (by simp))
      have HTk := Lib.hid (List.take_succ_eq_append_getElem hlt)
      have HSp : Hid (formE l[j] = false → l.all formE = false) := Lib.hid fun h => List.all_eq_false.2 ⟨_, List.getElem_mem hlt, by simp [h]⟩
      clear z0 z1 z2 z3 z4 z5 z6 z7 z9 he z8 z10 hnj
      rcases ckE_cases l[j] with ⟨hq, hc⟩ | ⟨hq, hc⟩
      · have HN : Hid ((l.take (j + 1)).all formE = true) := Lib.hid (by rw [HTk.out, List.all_append, HT.out]; simp [hq])
        rw [hc] at HK
        clear hq hc
        generalize l[j] = ej at *
        unfold E.val at HK
        go_wp2_with (go_at_call 33; refine (HK.out _).mono ?_; rintro x w3 ⟨rfl, hb3⟩)
        have HN2 := Lib.hid (thn (al HW.out _) hb3)
        clear hb3
        exact ⟨⟨j + 1, by omega, by go_num, HN2, HN⟩, by simp [intOf]; omega⟩
      · have HN : Hid (cksE l = 30) := Lib.hid (by unfold cksE; rw [HSp.out hq]; rfl)
        rw [hc] at HK
        clear hq hc
        generalize l[j] = ej at *
        unfold E.val at HK
        go_wp2_with (go_at_call 33; refine (HK.out _).mono ?_; rintro x w3 ⟨rfl, hb3⟩)
        go_ret
        exact ⟨by rw [HN.out]; rfl, thn (al HW.out _) hb3⟩
    · have hlf : decide ((j : Int) < (l.length : Int)) = false := decide_eq_false (by omega)
      have HN : Hid (cksE l = 0) := Lib.hid (by
        unfold cksE
        have h := HT.out
        rw [List.take_of_length_le (by omega)] at h
        rw [h]; rfl)
      go_wp2_with fail
      go_ret
      exact ⟨by rw [HN.out]; rfl, HW.out⟩
/-- one expression in a block of its own -/
theorem LOk.one {w : World} {P : Nat → Prop} {g : Nat} {T : TypeId} {e : E} {A R : Option Addr} {c d : Nat} (k : Blk w g T #[.int .i64 e.op, .int .i64 e.n, .int .i64 e.m, .int .i64 e.kind, .int .i64 e.lit.k, .int .i64 e.lit.n, .string e.lit.s, .slice A e.args.length c, .slice R e.rels.length d]) (hg : P g) (hA : LOk w P A e.args) (hR : ROk w P R e.rels) : LOk w P (some ⟨g, 0, none⟩) [e] :=
  LOk.of hg fun i hi => by
    have h0 : i = 0 := by simp at hi; omega
    subst h0
    refine EOk.mk_.2 ?_
    simp only [Nat.zero_mul, Nat.zero_add]
    exact ⟨k.cell 0, k.cell 1, k.cell 2, k.cell 3, k.cell 4, k.cell 5, k.cell 6, ⟨A, c, k.cell 7, hA⟩, R, d, k.cell 8, hR⟩
end Go.Proofs.YtdiehgfldndgbaaGreatDoor
