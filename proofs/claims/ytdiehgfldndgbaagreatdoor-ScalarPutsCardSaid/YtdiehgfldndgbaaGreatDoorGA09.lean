/-
  CoF: CONTRACTS over columns with a predicate: IndexFunc, ContainsFunc; scalar.allAre, mayBeNull.
  Col: ROWS OF COLUMNS that a call owns; the conditions and the values of a case, as a loop finds them.
  Prt: CONTRACT of scalar.parted over columns: the conditions and the values of a case.
  CiM: CONTRACTS of slices.IndexFunc and ContainsFunc over numbers, with a captured variable.
-/
import Derived.Test.YtdiehgfldndgbaaGreatDoorGA05
import Derived.Test.YtdiehgfldndgbaaGreatDoorGA07
import Derived.Test.YtdiehgfldndgbaaGreatDoorGA04
namespace Go.Proofs.YtdiehgfldndgbaaGreatDoor
open Go.RowKit

set_option maxHeartbeats 1000000 in
theorem IndexFunc_col0 (gf : FuncId) (p : Int × Bool → Bool) (A : Option Addr) (c : Nat) (cs : List (Int × Bool)) (w : World) (hr : KReads w w.heap.size A cs) (hn : cs.length ≤ 1000000)
    (heg : ∀ args W, (callFunc gf args).run Tryz.prog W = .ok (.enter gf args) W)
    (hcall : ∀ w1, Below w.heap.size w w1 → ∀ q ∈ cs, Calls Tryz.prog gf #[.agg #[.int .i64 q.1, .bool q.2]] w1 fun e w' => e = .returned (.bool (p q)) ∧ Below w1.heap.size w1 w') :
    Calls Tryz.prog 199 #[.slice A cs.length c, .func (.func gf) #[] #[]] w fun e w' => ∃ z, e = .returned (.int .i64 z) ∧ FoundI z (cs.any p) ∧ Below w.heap.size w w' := by
  have HR := Lib.hid hr
  have HC := Lib.hid hcall
  clear hr hcall
  go_enter Tryz.func199, Tryz.ntmps199
  go_wp2
  go_loopw [8] (fun i wr => ∃ k : Nat, k ≤ cs.length ∧ i = .int .i64 k ∧ Hid ((cs.take k).any p = false ∧ Below w.heap.size w wr)) (fun i _ => cs.length - (intOf i).toNat)
  case atStart => exact ⟨0, Nat.zero_le _, rfl, by simp, Below.refl _ _⟩
  case round =>
    obtain ⟨k, hk, rfl, HI⟩ := hrel
    by_cases hlt : k < cs.length
    · obtain ⟨b, o, rfl, hblk, c0, c1⟩ := (HR.out.below HI.out.2 HI.out.2.size).at_ hlt
      have HX := Lib.hid (HC.out wr HI.out.2 cs[k] (List.getElem_mem hlt))
      have HN := Lib.hid (fun h : p cs[k] = false => (by rw [any_take_snoc hlt, HI.out.1, h]; rfl : (cs.take (k + 1)).any p = false))
      have HY := Lib.hid (fun h : p cs[k] = true => any_at (p := p) hlt h)
      go_wp2_with fail
      refine HX.out.mono ?_
      rintro e w1 ⟨rfl, hb1⟩
      have W1 := Lib.hid (thn HI.out.2 hb1)
      clear hb1 HX c0 c1
      generalize p cs[k] = q at *
      cases q
      · have HN2 := Lib.hid (HN.out rfl)
        clear HN HY
        go_wp2_with fail
        first | exact ⟨⟨k + 1, by omega, by go_num, HN2.out, W1.out⟩, by simp [intOf]; omega⟩ | (go_roundw; case rel => exact ⟨k + 1, by omega, by go_num, HN2.out, W1.out⟩; case measure => simp [intOf]; omega)
      · have HY2 := Lib.hid (HY.out rfl)
        clear HN HY
        go_wp2_with fail
        go_ret
        exact ⟨_, rfl, .inl ⟨HY2.out, by omega, by omega⟩, W1.out⟩
    · have hkn : k = cs.length := by omega
      subst hkn
      go_wp2_with fail
      go_ret
      exact ⟨_, rfl, .inr ⟨by have := HI.out.1; rwa [List.take_length] at this, rfl⟩, HI.out.2⟩
set_option maxHeartbeats 1000000 in
theorem ContainsFunc_col0 (gf : FuncId) (p : Int × Bool → Bool) (A : Option Addr) (c : Nat) (cs : List (Int × Bool)) (w : World) (hr : KReads w w.heap.size A cs) (hn : cs.length ≤ 1000000)
    (heg : ∀ args W, (callFunc gf args).run Tryz.prog W = .ok (.enter gf args) W)
    (hcall : ∀ w1, Below w.heap.size w w1 → ∀ q ∈ cs, Calls Tryz.prog gf #[.agg #[.int .i64 q.1, .bool q.2]] w1 fun e w' => e = .returned (.bool (p q)) ∧ Below w1.heap.size w1 w') :
    Calls Tryz.prog 129 #[.slice A cs.length c, .func (.func gf) #[] #[]] w fun e w' => e = .returned (.bool (cs.any p)) ∧ Below w.heap.size w w' := by
  have HX := Lib.hid (IndexFunc_col0 gf p A c cs w hr hn heg hcall)
  clear hr hcall heg
  go_enter Tryz.func129, Tryz.ntmps129
  go_wp2_with fail
  refine HX.out.mono ?_
  rintro e w1 ⟨z, rfl, hz, hb1⟩
  have HZ := Lib.hid hz.bool
  clear hz HX
  go_wp2_with fail
  go_ret
  exact ⟨ret_bool HZ.out, hb1⟩
set_option maxHeartbeats 1000000 in
theorem IndexFunc_col1 (gf : FuncId) (a : Value) (p : Int × Bool → Bool) (A : Option Addr) (c : Nat) (cs : List (Int × Bool)) (w : World) (hr : KReads w w.heap.size A cs) (hn : cs.length ≤ 1000000)
    (heg : ∀ args W, (callFunc gf args).run Tryz.prog W = .ok (.enter gf args) W)
    (hcall : ∀ w1, Below w.heap.size w w1 → ∀ q ∈ cs, Calls Tryz.prog gf #[.agg #[.int .i64 q.1, .bool q.2], a] w1 fun e w' => e = .returned (.bool (p q)) ∧ Below w1.heap.size w1 w') :
    Calls Tryz.prog 199 #[.slice A cs.length c, .func (.func gf) #[] #[a]] w fun e w' => ∃ z, e = .returned (.int .i64 z) ∧ FoundI z (cs.any p) ∧ Below w.heap.size w w' := by
  have HR := Lib.hid hr
  have HC := Lib.hid hcall
  clear hr hcall
  go_enter Tryz.func199, Tryz.ntmps199
  go_wp2
  go_loopw [8] (fun i wr => ∃ k : Nat, k ≤ cs.length ∧ i = .int .i64 k ∧ Hid ((cs.take k).any p = false ∧ Below w.heap.size w wr)) (fun i _ => cs.length - (intOf i).toNat)
  case atStart => exact ⟨0, Nat.zero_le _, rfl, by simp, Below.refl _ _⟩
  case round =>
    obtain ⟨k, hk, rfl, HI⟩ := hrel
    by_cases hlt : k < cs.length
    · obtain ⟨b, o, rfl, hblk, c0, c1⟩ := (HR.out.below HI.out.2 HI.out.2.size).at_ hlt
      have HX := Lib.hid (HC.out wr HI.out.2 cs[k] (List.getElem_mem hlt))
      have HN := Lib.hid (fun h : p cs[k] = false => (by rw [any_take_snoc hlt, HI.out.1, h]; rfl : (cs.take (k + 1)).any p = false))
      have HY := Lib.hid (fun h : p cs[k] = true => any_at (p := p) hlt h)
      go_wp2_with fail
      refine HX.out.mono ?_
      rintro e w1 ⟨rfl, hb1⟩
      have W1 := Lib.hid (thn HI.out.2 hb1)
      clear hb1 HX c0 c1
      generalize p cs[k] = q at *
      cases q
      · have HN2 := Lib.hid (HN.out rfl)
        clear HN HY
        go_wp2_with fail
        first | exact ⟨⟨k + 1, by omega, by go_num, HN2.out, W1.out⟩, by simp [intOf]; omega⟩ | (go_roundw; case rel => exact ⟨k + 1, by omega, by go_num, HN2.out, W1.out⟩; case measure => simp [intOf]; omega)
      · have HY2 := Lib.hid (HY.out rfl)
        clear HN HY
        go_wp2_with fail
        go_ret
        exact ⟨_, rfl, .inl ⟨HY2.out, by omega, by omega⟩, W1.out⟩
    · have hkn : k = cs.length := by omega
      subst hkn
      go_wp2_with fail
      go_ret
      exact ⟨_, rfl, .inr ⟨by have := HI.out.1; rwa [List.take_length] at this, rfl⟩, HI.out.2⟩
set_option maxHeartbeats 1000000 in
theorem ContainsFunc_col1 (gf : FuncId) (a : Value) (p : Int × Bool → Bool) (A : Option Addr) (c : Nat) (cs : List (Int × Bool)) (w : World) (hr : KReads w w.heap.size A cs) (hn : cs.length ≤ 1000000)
    (heg : ∀ args W, (callFunc gf args).run Tryz.prog W = .ok (.enter gf args) W)
    (hcall : ∀ w1, Below w.heap.size w w1 → ∀ q ∈ cs, Calls Tryz.prog gf #[.agg #[.int .i64 q.1, .bool q.2], a] w1 fun e w' => e = .returned (.bool (p q)) ∧ Below w1.heap.size w1 w') :
    Calls Tryz.prog 129 #[.slice A cs.length c, .func (.func gf) #[] #[a]] w fun e w' => e = .returned (.bool (cs.any p)) ∧ Below w.heap.size w w' := by
  have HX := Lib.hid (IndexFunc_col1 gf a p A c cs w hr hn heg hcall)
  clear hr hcall heg
  go_enter Tryz.func129, Tryz.ntmps129
  go_wp2_with fail
  refine HX.out.mono ?_
  rintro e w1 ⟨z, rfl, hz, hb1⟩
  have HZ := Lib.hid hz.bool
  clear hz HX
  go_wp2_with fail
  go_ret
  exact ⟨ret_bool HZ.out, hb1⟩
theorem allAre1_any (k kind : Int) (b : Bool) (g : Nat) (w : World) (hB : Blk w g 25 #[.int .i64 kind]) : Calls Tryz.prog 242 #[.agg #[.int .i64 k, .bool b], .pointer (some ⟨g, 0, none⟩)] w fun e w' => e = .returned (.bool (k != kind)) ∧ Below w.heap.size w w' := by
  have c0 := hB.cell 0
  have hlt := hB.lt
  simp only [List.getElem?_toArray, List.getElem?_cons_zero] at c0
  clear hB
  go_enter Tryz.func242, Tryz.ntmps242
  go_wp2_with fail
  go_ret
  exact ⟨rfl, al (Below.refl _ _) _⟩
theorem null1_any (k : Int) (b : Bool) (w : World) : Calls Tryz.prog 243 #[.agg #[.int .i64 k, .bool b]] w fun e w' => e = .returned (.bool (!b)) ∧ Below w.heap.size w w' := by
  go_enter Tryz.func243, Tryz.ntmps243
  go_wp2_with fail
  go_ret
  exact ⟨rfl, al (Below.refl _ _) _⟩
theorem null2_any (k : Int) (b : Bool) (w : World) : Calls Tryz.prog 244 #[.agg #[.int .i64 k, .bool b]] w fun e w' => e = .returned (.bool b) ∧ Below w.heap.size w w' := by
  go_enter Tryz.func244, Tryz.ntmps244
  go_wp2_with fail
  go_ret
  exact ⟨rfl, al (Below.refl _ _) _⟩
theorem allK_any (l : List Co) (k : Int) : allK l k = !(l.any fun c => c.1 != k) := by
  unfold allK
  induction l with
  | nil => rfl
  | cons c l ih => simp [ih, bne]
set_option maxHeartbeats 1000000 in
theorem allAre_any (kind : Int) (A : Option Addr) (c : Nat) (cs : List Co) (w : World) (hr : KReads w w.heap.size A cs) (hn : cs.length ≤ 1000000) :
    Calls Tryz.prog 201 #[.int .i64 kind, .slice A cs.length c] w fun e w' => e = .returned (.bool (allK cs kind)) ∧ Below w.heap.size w w' := by
  have HE := Lib.hid (allK_any cs kind)
  have hB0 := Blk.new w 25 #[.int .i64 kind]
  have hb0 := al (Below.refl w.heap.size w) (.cells #[.int .i64 kind] 25)
  have HX := Lib.hid (ContainsFunc_col1 242 (.pointer (some ⟨w.heap.size, 0, none⟩)) (fun q => q.1 != kind) A c cs _ (hr.below hb0 hb0.size) hn (enters_of Tryz.func242 (by kernel_rfl) rfl) fun w1 hb q _ => allAre1_any q.1 kind q.2 w.heap.size w1 (hB0.below hb hB0.lt))
  have hmf : ∀ (fn : Fn) (first cap : Array Value) (w : World), (Instr.makeFunc fn first cap).run Tryz.prog w = .ok (.func fn first cap) w := fun _ _ _ _ => rfl
  clear hr hB0 hb0
  go_enter Tryz.func201, Tryz.ntmps201
  go_wp2_with fail
  refine HX.out.mono ?_
  rintro e w2 ⟨rfl, hb2⟩
  have H2 := Lib.hid (thn (al (Below.refl _ _) _) hb2)
  clear hb2
  go_wp2_with fail
  go_ret
  exact ⟨by rw [HE.out]; rfl, H2.out⟩
set_option maxHeartbeats 2000000 in
theorem mayBeNull_any (op : Int) (A : Option Addr) (c : Nat) (cs : List Co) (w : World) (hr : KReads w w.heap.size A cs) (hn : cs.length ≤ 1000000) :
    Calls Tryz.prog 202 #[.int .i64 op, .slice A cs.length c] w fun e w' => e = .returned (.bool (mayN op cs)) ∧ Below w.heap.size w w' := by
  have H1 := Lib.hid (ContainsFunc_col0 243 (fun q => !q.2) A c cs w hr hn (enters_of Tryz.func243 (by kernel_rfl) rfl) fun w1 hb q _ => null1_any q.1 q.2 w1)
  have H2 := Lib.hid (ContainsFunc_col0 244 Prod.snd A c cs w hr hn (enters_of Tryz.func244 (by kernel_rfl) rfl) fun w1 hb q _ => null2_any q.1 q.2 w1)
  clear hr
  by_cases o7 : op = 7
  · subst o7
    clear H1 H2
    go_enter Tryz.func202, Tryz.ntmps202
    go_wp2_with fail
    go_ret
    exact ⟨rfl, Below.refl _ _⟩
  have e7 : (op == 7) = false := beq_eq_false_iff_ne.2 o7
  by_cases o8 : op = 8
  · subst o8
    clear H1 H2
    go_enter Tryz.func202, Tryz.ntmps202
    go_wp2_with fail
    go_ret
    exact ⟨rfl, Below.refl _ _⟩
  have e8 : (op == 8) = false := beq_eq_false_iff_ne.2 o8
  by_cases o18 : op = 18
  · subst o18
    clear H1 H2
    go_enter Tryz.func202, Tryz.ntmps202
    go_wp2_with fail
    go_ret
    exact ⟨rfl, Below.refl _ _⟩
  have e18 : (op == 18) = false := beq_eq_false_iff_ne.2 o18
  by_cases o22 : op = 22
  · subst o22
    clear H1 H2
    go_enter Tryz.func202, Tryz.ntmps202
    go_wp2_with fail
    go_ret
    exact ⟨rfl, Below.refl _ _⟩
  have e22 : (op == 22) = false := beq_eq_false_iff_ne.2 o22
  by_cases o23 : op = 23
  · subst o23
    clear H1 H2
    go_enter Tryz.func202, Tryz.ntmps202
    go_wp2_with fail
    go_ret
    exact ⟨rfl, Below.refl _ _⟩
  have e23 : (op == 23) = false := beq_eq_false_iff_ne.2 o23
  by_cases o25 : op = 25
  · subst o25
    have HE : Hid (mayN 25 cs = !(cs.any fun q => !q.2)) := Lib.hid (by unfold mayN; rfl)
    clear o7 o8 o18 o22 o23 e7 e8 e18 e22 e23
    go_enter Tryz.func202, Tryz.ntmps202
    go_wp2_with fail
    refine H1.out.mono ?_
    rintro e w2 ⟨rfl, hb2⟩
    have HB2 := Lib.hid hb2
    clear hb2
    go_wp2_with fail
    go_ret
    exact ⟨by rw [HE.out]; rfl, HB2.out⟩
  · have e25 : (op == 25) = false := beq_eq_false_iff_ne.2 o25
    have HE : Hid (mayN op cs = cs.any Prod.snd) := Lib.hid (by unfold mayN; rw [if_neg (by omega), if_neg (by omega), if_neg o25])
    clear o7 o8 o18 o22 o23 o25
    go_enter Tryz.func202, Tryz.ntmps202
    go_wp2_with fail
    refine H2.out.mono ?_
    rintro e w2 ⟨rfl, hb2⟩
    have HB2 := Lib.hid hb2
    clear hb2
    go_wp2_with fail
    go_ret
    exact ⟨by rw [HE.out]; rfl, HB2.out⟩
end Go.Proofs.YtdiehgfldndgbaaGreatDoor
namespace Go.Proofs.YtdiehgfldndgbaaGreatDoor
open Go.RowKit

theorem infoCo : (Tryz.prog.info? 77).map (fun i => (i.zero, i.size, i.bytes)) = some (some (.agg #[.int .i64 0, .bool false]), 2, 16) := by kernel_rfl
def Co.cells (c : Co) : List Value := [.int .i64 c.1, .bool c.2]
def ccells (l : List Co) : List Value := l.flatMap Co.cells
theorem ccells_at : ∀ (l : List Co) (i j : Nat) (v : Co), l[i]? = some v → j < 2 → (ccells l)[i * 2 + j]? = (Co.cells v)[j]?
  | [], i, j, v, h, _ => by simp at h
  | x :: l, 0, j, v, h, hj => by
    simp at h; subst h
    unfold ccells
    rw [List.flatMap_cons, List.getElem?_append_left (by simp [Co.cells]; omega)]
    simp
  | x :: l, i + 1, j, v, h, hj => by
    have ih := ccells_at l i j v (by simpa using h) hj
    unfold ccells at ih ⊢
    rw [List.flatMap_cons, List.getElem?_append_right (by simp [Co.cells]; omega)]
    have e : (i + 1) * 2 + j - (Co.cells x).length = i * 2 + j := by simp [Co.cells]; omega
    rw [e, ih]
theorem ccells_one (l : List Co) : ∀ u ∈ ccells l, u.oneCell' = true := fun u hu => by
  unfold ccells at hu
  rw [List.mem_flatMap] at hu
  obtain ⟨v, _, hv⟩ := hu
  simp [Co.cells] at hv
  rcases hv with rfl | rfl <;> rfl
theorem ccells_append (l r : List Co) : ccells (l ++ r) = ccells l ++ ccells r := by simp [ccells]
theorem Reads.col {w : World} {g B : Nat} {T : TypeId} {c : Co} (k : Blk w g T #[.int .i64 c.1, .bool c.2]) (hg : g < B) : Reads w B 2 (some ⟨g, 0, none⟩) 1 (ccells [c]) :=
  ⟨rfl, fun _ => ⟨_, rfl, hg, fun j u hj => by
    rw [addN, Nat.zero_add, k.cell j]
    have e : ccells [c] = Co.cells c := by unfold ccells; simp
    rw [e] at hj
    rw [← hj]
    simp [Co.cells]⟩⟩
/-- a row of columns of the call's own reads as such -/
theorem KReads.own {w : World} {base : Nat} {T : TypeId} {v : Value} {l : List Co} (h : w.ownsRow base T 2 v l.length (ccells l)) :
    ∃ (A : Option Addr) (c : Nat), v = .slice A l.length c ∧ KReads w w.heap.size A l := by
  rcases h.2 with ⟨rfl, h0⟩ | ⟨g, cap, cur, rfl, hbg, hh, hnc, hcm, hcs, htk⟩
  · exact ⟨none, 0, by rw [h0], fun h1 => absurd h1 (by omega)⟩
  · refine ⟨_, cap, rfl, fun _ => ⟨g, 0, rfl, (h.lt g rfl).2, fun i x hx => ?_⟩⟩
    have hi : i < l.length := (List.getElem?_eq_some_iff.1 hx).1
    have k : ∀ j, j < 2 → w.cell? ⟨g, 0 + i * 2 + j, none⟩ = (Co.cells x)[j]? := fun j hj => by
      rw [Nat.zero_add, cell_of_row w g (i * 2 + j) cur T (0, 0) hh, ← ccells_at l i j x hx hj, ← htk, List.getElem?_take, if_pos (by omega)]
      simp
    exact ⟨k 0 (by decide), k 1 (by decide)⟩
section
variable {α : Type}
/-- of those from place i on: at even places ahead of the last one -/
def pc (last : Nat) : Nat → List α → List α
  | _, [] => []
  | i, x :: l => if i % 2 = 0 ∧ i < last then x :: pc last (i + 1) l else pc last (i + 1) l
/-- all others -/
def pv (last : Nat) : Nat → List α → List α
  | _, [] => []
  | i, x :: l => if i % 2 = 0 ∧ i < last then pv last (i + 1) l else x :: pv last (i + 1) l
theorem pc_snoc (last : Nat) : ∀ (l : List α) (i : Nat) (x : α), pc last i (l ++ [x]) = pc last i l ++ if (i + l.length) % 2 = 0 ∧ i + l.length < last then [x] else []
  | [], i, x => by simp [pc]
  | y :: l, i, x => by
    have := pc_snoc last l (i + 1) x
    rw [List.cons_append, pc, pc, this, show i + 1 + l.length = i + (y :: l).length by simp; omega]
    split <;> rfl
theorem pv_snoc (last : Nat) : ∀ (l : List α) (i : Nat) (x : α), pv last i (l ++ [x]) = pv last i l ++ if (i + l.length) % 2 = 0 ∧ i + l.length < last then [] else [x]
  | [], i, x => by simp [pv]
  | y :: l, i, x => by
    have := pv_snoc last l (i + 1) x
    rw [List.cons_append, pv, pv, this, show i + 1 + l.length = i + (y :: l).length by simp; omega]
    split <;> rfl
theorem pc_conds : ∀ (l : List α) (i last : Nat), i % 2 = 0 → last + 1 = i + l.length → pc last i l = conds l ∧ pv last i l = vals l
  | [], i, last, _, _ => ⟨rfl, rfl⟩
  | [x], i, last, h, h2 => by
    have : ¬ (i % 2 = 0 ∧ i < last) := by simp at h2; omega
    simp [pc, pv, conds, vals, this]
  | x :: y :: l, i, last, h, h2 => by
    have ih := pc_conds l (i + 2) last (by omega) (by simp at h2 ⊢; omega)
    have h3 : i % 2 = 0 ∧ i < last := by simp at h2; omega
    have h4 : ¬ ((i + 1) % 2 = 0 ∧ i + 1 < last) := by omega
    rw [pc, if_pos h3, pc, if_neg h4, pv, if_pos h3, pv, if_neg h4, conds, vals, ih.1, ih.2]
    exact ⟨rfl, rfl⟩
theorem pc_len (last : Nat) : ∀ (l : List α) (i : Nat), (pc last i l).length ≤ l.length ∧ (pv last i l).length ≤ l.length
  | [], i => ⟨Nat.le_refl _, Nat.le_refl _⟩
  | x :: l, i => by
    have := pc_len last l (i + 1)
    rw [pc, pv]
    split <;> simp only [List.length_cons] <;> omega
end
end Go.Proofs.YtdiehgfldndgbaaGreatDoor
namespace Go.Proofs.YtdiehgfldndgbaaGreatDoor
open Go.RowKit

/-- two rows that grow, apart from one another -/
def PInv (w wr : World) (v2 v3 : Value) (a b : List Co) : Prop :=
  wr.ownsRow w.heap.size 77 2 v2 a.length (ccells a) ∧ wr.ownsRow w.heap.size 77 2 v3 b.length (ccells b) ∧ (∀ g, v2.ownBlock = some g → v3.ownBlock ≠ some g) ∧ Below w.heap.size w wr
theorem PInv.swap {w wr : World} {v2 v3 : Value} {a b : List Co} (h : PInv w wr v2 v3 a b) : PInv w wr v3 v2 b a := ⟨h.2.1, h.1, fun g h1 h2 => h.2.2.1 g h2 h1, h.2.2.2⟩
theorem PInv.grow {w wr w1 : World} {v2 v3 v' : Value} {a b : List Co} {c : Co} {o1 o2 : Obj} (h : PInv w wr v2 v3 a b) (ho : w1.ownsRow w.heap.size 77 2 v' (a.length + 1) (ccells a ++ ccells [c])) (hg : ((wr.alloc o1).alloc o2).grownBy w1 v2.ownBlock) (hv : v'.ownBlock = v2.ownBlock ∨ v'.ownBlock = some ((wr.alloc o1).alloc o2).heap.size) : PInv w w1 v' v3 (a ++ [c]) b := by
  refine ⟨?_, ?_, ?_, ?_⟩
  · rw [ccells_append, List.length_append]; exact ho
  · refine ((h.2.1.alloc _).alloc _).kept hg ?_
    cases hv3 : v3.ownBlock with
    | none => exact .inl rfl
    | some g => exact .inr fun e => h.2.2.1 g e.symm hv3
  · intro g hg2 e
    rcases hv with h1 | h1
    · exact h.2.2.1 g (h1 ▸ hg2) e
    · rw [h1] at hg2
      injection hg2 with hg2
      have := (h.2.1.lt g e).2
      simp at hg2
      omega
  · exact ((al (al h.2.2.2 _) _)).grown hg (by have := h.2.2.2.size; simp <;> omega) (own_base h.1)
set_option maxHeartbeats 2000000 in
set_option maxRecDepth 100000 in
theorem parted_col (A : Option Addr) (c : Nat) (l : List Co) (w : World) (hr : KReads w w.heap.size A l) (h0 : 0 < l.length) (hn : l.length ≤ 1000000) :
    Calls Tryz.prog 200 #[.slice A l.length c] w fun e w' => ∃ v2 v3, e = .returned (.tuple #[v2, v3]) ∧ PInv w w' v2 v3 (conds l) (vals l) := by
  obtain ⟨i0, hi, hz0, hz1, hz2⟩ := info_parts infoCo
  have HR := Lib.hid hr
  have HE := Lib.hid (pc_conds l 0 (l.length - 1) rfl (by omega))
  obtain ⟨last, hlast⟩ : ∃ last : Nat, last = l.length - 1 := ⟨_, rfl⟩
  rw [← hlast] at HE
  have hli : (l.length : Int) - 1 = (last : Int) := by omega
  clear hr hlast
  go_enter Tryz.func200, Tryz.ntmps200
  go_wp2_with fail
  clear hli
  go_loopw [2, 3, 12] (fun v2 v3 iv wr => ∃ j : Nat, j ≤ l.length ∧ iv = .int .i64 j ∧ Hid (PInv w wr v2 v3 (pc last 0 (l.take j)) (pv last 0 (l.take j)))) (fun _ _ iv _ => l.length - (intOf iv).toNat)
  case atStart => exact ⟨0, Nat.zero_le _, rfl, ⟨rfl, .inl ⟨rfl, rfl⟩⟩, ⟨rfl, .inl ⟨rfl, rfl⟩⟩, (fun g h => by cases h), Below.refl _ _⟩
  case round =>
    obtain ⟨j, hj, rfl, HI⟩ := hrel
    by_cases hlt : j < l.length
    · obtain ⟨b, o, rfl, hblk, c0, c1⟩ := (HR.out.below HI.out.2.2.2 HI.out.2.2.2.size).at_ hlt
      have hlti : (j : Int) < (l.length : Int) := by omega
      have HTk := Lib.hid (List.take_succ_eq_append_getElem hlt)
      have hjl : (l.take j).length = j := by rw [List.length_take]; omega
      have hpl := pc_len last (l.take j) 0
      rw [hjl] at hpl
      have hP := pc_snoc last (l.take j) 0 l[j]
      have hV := pv_snoc last (l.take j) 0 l[j]
      rw [← HTk.out, Nat.zero_add, hjl] at hP hV
      have hBs := HI.out.2.2.2.size
      have hRd : ∀ ob, Reads ((wr.alloc ob).alloc (.cells #[.int .i64 l[j].1, .bool l[j].2] 77)) (wr.heap.size + 1 + 1) 2 (some ⟨wr.heap.size + 1, 0, none⟩) 1 (ccells [l[j]]) := fun ob => Reads.col (Blk.new' (g := wr.heap.size + 1) (by simp)) (Nat.lt_succ_self _)
      by_cases hc : j % 2 = 0 ∧ j < last
      · rw [if_pos hc] at hP hV
        rw [List.append_nil] at hV
        have HPV := Lib.hid (And.intro hP hV)
        have hm : (((j : Int) % 2) == 0) = true := by rw [beq_iff_eq]; omega
        have hm2 : ((j : Int).tmod 2 == 0) = true := by rw [Int.tmod_eq_emod_of_nonneg (by omega)]; exact hm
        have hd : decide (j < last) = true := decide_eq_true hc.2
        clear hP hV hc hjl
        have hb1 : (pc last 0 (l.take j)).length + 1 ≤ maxLen := by unfold maxLen; omega
        have hb2 : ((pc last 0 (l.take j)).length + 1) * 16 ≤ 140737488355328 := by omega
        go_wp2_with (at_builtin; refine wpList_append_any _ rfl (.tmp 25) (.tmp 27) 54 rfl w.heap.size 77 i0 (.agg #[.int .i64 0, .bool false]) 2 16 Tryz.underlying54 hi hz0 hz1 hz2 rfl (by decide) _ _ _ rfl ((HI.out.1.alloc _).alloc _) (wr.heap.size + 1 + 1) _ 1 1 (ccells [l[j]]) rfl (hRd _) (ccells_one _) hb1 hb2 (by simp; omega) ?_)
        intro v' w1 hown1 hgrow hvb
        have HN : Hid (PInv w w1 v' u3 (pc last 0 (l.take (j + 1))) (pv last 0 (l.take (j + 1)))) := Lib.hid (by rw [HPV.out.1, HPV.out.2]; exact HI.out.grow hown1 hgrow (by simpa using hvb))
        clear hown1 hgrow hvb hpl hRd hb1 hb2
        go_wp2_with fail
        first | exact ⟨⟨j + 1, by omega, by go_num, HN⟩, by simp [intOf]; omega⟩ | (go_roundw; case rel => exact ⟨j + 1, by omega, by go_num, HN⟩; case measure => simp [intOf]; omega)
      · rw [if_neg hc] at hP hV
        rw [List.append_nil] at hP
        have HPV := Lib.hid (And.intro hP hV)
        by_cases hm0 : j % 2 = 0
        · have hm : (((j : Int) % 2) == 0) = true := by rw [beq_iff_eq]; omega
          have hm2 : ((j : Int).tmod 2 == 0) = true := by rw [Int.tmod_eq_emod_of_nonneg (by omega)]; exact hm
          have hd : decide (j < last) = false := decide_eq_false (by omega)
          clear hP hV hc hjl
          have hb1 : (pv last 0 (l.take j)).length + 1 ≤ maxLen := by unfold maxLen; omega
          have hb2 : ((pv last 0 (l.take j)).length + 1) * 16 ≤ 140737488355328 := by omega
          go_wp2_with (at_builtin; refine wpList_append_any _ rfl (.tmp 29) (.tmp 31) 54 rfl w.heap.size 77 i0 (.agg #[.int .i64 0, .bool false]) 2 16 Tryz.underlying54 hi hz0 hz1 hz2 rfl (by decide) _ _ _ rfl ((HI.out.2.1.alloc _).alloc _) (wr.heap.size + 1 + 1) _ 1 1 (ccells [l[j]]) rfl (hRd _) (ccells_one _) hb1 hb2 (by simp; omega) ?_)
          intro v' w1 hown1 hgrow hvb
          have HN : Hid (PInv w w1 u2 v' (pc last 0 (l.take (j + 1))) (pv last 0 (l.take (j + 1)))) := Lib.hid (by rw [HPV.out.1, HPV.out.2]; exact (HI.out.swap.grow hown1 hgrow (by simpa using hvb)).swap)
          clear hown1 hgrow hvb hpl hRd hb1 hb2
          go_wp2_with fail
          first | exact ⟨⟨j + 1, by omega, by go_num, HN⟩, by simp [intOf]; omega⟩ | (go_roundw; case rel => exact ⟨j + 1, by omega, by go_num, HN⟩; case measure => simp [intOf]; omega)
        · have hm : (((j : Int) % 2) == 0) = false := by rw [beq_eq_false_iff_ne]; omega
          have hm2 : ((j : Int).tmod 2 == 0) = false := by rw [Int.tmod_eq_emod_of_nonneg (by omega)]; exact hm
          clear hP hV hc hjl
          have hb1 : (pv last 0 (l.take j)).length + 1 ≤ maxLen := by unfold maxLen; omega
          have hb2 : ((pv last 0 (l.take j)).length + 1) * 16 ≤ 140737488355328 := by omega
          go_wp2_with (at_builtin; refine wpList_append_any _ rfl (.tmp 29) (.tmp 31) 54 rfl w.heap.size 77 i0 (.agg #[.int .i64 0, .bool false]) 2 16 Tryz.underlying54 hi hz0 hz1 hz2 rfl (by decide) _ _ _ rfl ((HI.out.2.1.alloc _).alloc _) (wr.heap.size + 1 + 1) _ 1 1 (ccells [l[j]]) rfl (hRd _) (ccells_one _) hb1 hb2 (by simp; omega) ?_)
          intro v' w1 hown1 hgrow hvb
          have HN : Hid (PInv w w1 u2 v' (pc last 0 (l.take (j + 1))) (pv last 0 (l.take (j + 1)))) := Lib.hid (by rw [HPV.out.1, HPV.out.2]; exact (HI.out.swap.grow hown1 hgrow (by simpa using hvb)).swap)
          clear hown1 hgrow hvb hpl hRd hb1 hb2
          go_wp2_with fail
          first | exact ⟨⟨j + 1, by omega, by go_num, HN⟩, by simp [intOf]; omega⟩ | (go_roundw; case rel => exact ⟨j + 1, by omega, by go_num, HN⟩; case measure => simp [intOf]; omega)
    · have hlf : decide ((j : Int) < (l.length : Int)) = false := decide_eq_false (by omega)
      have HN : Hid (PInv w wr u2 u3 (conds l) (vals l)) := Lib.hid (by
        have h := HI.out
        rw [List.take_of_length_le (by omega)] at h
        rw [← HE.out.1, ← HE.out.2]
        exact h)
      go_wp2_with fail
      go_ret2
      exact ⟨u2, u3, rfl, HN.out⟩
end Go.Proofs.YtdiehgfldndgbaaGreatDoor
namespace Go.Proofs.YtdiehgfldndgbaaGreatDoor
open Go.RowKit Go.Deep

set_option maxHeartbeats 1000000 in
theorem IndexFunc_int1 (gf : FuncId) (a : Value) (p : Int → Bool) (A : Option Addr) (c : Nat) (cs : List Int) (w : World) (hr : IRd w (Lo w.heap.size) A cs) (hn : cs.length ≤ 1000000)
    (heg : ∀ args W, (callFunc gf args).run Tryz.prog W = .ok (.enter gf args) W)
    (hcall : ∀ w1, Below w.heap.size w w1 → ∀ q ∈ cs, Calls Tryz.prog gf #[.int .i64 q, a] w1 fun e w' => e = .returned (.bool (p q)) ∧ Below w1.heap.size w1 w') :
    Calls Tryz.prog 93 #[.slice A cs.length c, .func (.func gf) #[] #[a]] w fun e w' => ∃ z, e = .returned (.int .i64 z) ∧ FoundI z (cs.any p) ∧ Below w.heap.size w w' := by
  have HR := Lib.hid hr
  have HC := Lib.hid hcall
  clear hr hcall
  go_enter Tryz.func93, Tryz.ntmps93
  go_wp2
  go_loopw [8] (fun i wr => ∃ k : Nat, k ≤ cs.length ∧ i = .int .i64 k ∧ Hid ((cs.take k).any p = false ∧ Below w.heap.size w wr)) (fun i _ => cs.length - (intOf i).toNat)
  case atStart => exact ⟨0, Nat.zero_le _, rfl, by simp, Below.refl _ _⟩
  case round =>
    obtain ⟨k, hk, rfl, HI⟩ := hrel
    by_cases hlt : k < cs.length
    · obtain ⟨b, o, rfl, hblk, c0⟩ := (HR.out.kept (P' := Lo wr.heap.size) (fun b h => HI.out.2.block b h) fun b h => Nat.lt_of_lt_of_le h HI.out.2.size).at_ hlt
      have HX := Lib.hid (HC.out wr HI.out.2 cs[k] (List.getElem_mem hlt))
      have HN := Lib.hid (fun h : p cs[k] = false => (by rw [any_take_snoc hlt, HI.out.1, h]; rfl : (cs.take (k + 1)).any p = false))
      have HY := Lib.hid (fun h : p cs[k] = true => any_at (p := p) hlt h)
      go_wp2_with fail
      refine HX.out.mono ?_
      rintro e w1 ⟨rfl, hb1⟩
      have W1 := Lib.hid (thn HI.out.2 hb1)
      clear hb1 HX c0
      generalize p cs[k] = q at *
      cases q
      · have HN2 := Lib.hid (HN.out rfl)
        clear HN HY
        go_wp2_with fail
        first | exact ⟨⟨k + 1, by omega, by go_num, HN2.out, W1.out⟩, by simp [intOf]; omega⟩ | (go_roundw; case rel => exact ⟨k + 1, by omega, by go_num, HN2.out, W1.out⟩; case measure => simp [intOf]; omega)
      · have HY2 := Lib.hid (HY.out rfl)
        clear HN HY
        go_wp2_with fail
        go_ret
        exact ⟨_, rfl, .inl ⟨HY2.out, by omega, by omega⟩, W1.out⟩
    · have hkn : k = cs.length := by omega
      subst hkn
      go_wp2_with fail
      go_ret
      exact ⟨_, rfl, .inr ⟨by have := HI.out.1; rwa [List.take_length] at this, rfl⟩, HI.out.2⟩
set_option maxHeartbeats 1000000 in
theorem ContainsFunc_int1 (gf : FuncId) (a : Value) (p : Int → Bool) (A : Option Addr) (c : Nat) (cs : List Int) (w : World) (hr : IRd w (Lo w.heap.size) A cs) (hn : cs.length ≤ 1000000)
    (heg : ∀ args W, (callFunc gf args).run Tryz.prog W = .ok (.enter gf args) W)
    (hcall : ∀ w1, Below w.heap.size w w1 → ∀ q ∈ cs, Calls Tryz.prog gf #[.int .i64 q, a] w1 fun e w' => e = .returned (.bool (p q)) ∧ Below w1.heap.size w1 w') :
    Calls Tryz.prog 58 #[.slice A cs.length c, .func (.func gf) #[] #[a]] w fun e w' => e = .returned (.bool (cs.any p)) ∧ Below w.heap.size w w' := by
  have HX := Lib.hid (IndexFunc_int1 gf a p A c cs w hr hn heg hcall)
  clear hr hcall heg
  go_enter Tryz.func58, Tryz.ntmps58
  go_wp2_with fail
  refine HX.out.mono ?_
  rintro e w1 ⟨z, rfl, hz, hb1⟩
  have HZ := Lib.hid hz.bool
  clear hz HX
  go_wp2_with fail
  go_ret
  exact ⟨ret_bool HZ.out, hb1⟩
end Go.Proofs.YtdiehgfldndgbaaGreatDoor
