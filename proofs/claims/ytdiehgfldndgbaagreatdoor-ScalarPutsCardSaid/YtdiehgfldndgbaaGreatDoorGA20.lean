/-
  Reb: CONTRACTS of scalar.each from expressions to expressions, rebuilt, copied.
  Re2: CONTRACTS of rebuilt and what it is made of.
  ReC: CONTRACT of rebuilt with a leaf function that has captured a variable, and that is asked at the leaves of one expression alone.
-/
import Derived.Test.YtdiehgfldndgbaaGreatDoorEcV
import Derived.Test.YtdiehgfldndgbaaGreatDoorGA10
import Derived.Test.YtdiehgfldndgbaaGreatDoorGA07
namespace Go.Proofs.YtdiehgfldndgbaaGreatDoor
open Go.RowKit Go.Deep

mutual
/-- an expression with what f gives for each node without arguments -/
def mapE (f : E → E) : E → E
  | .mk op n m k lit args _ => match args with
    | [] => f (.mk op n m k lit [] [])
    | a :: l => .mk op n m k lit (mapE f a :: mapL f l) []
def mapL (f : E → E) : List E → List E
  | [] => []
  | e :: l => mapE f e :: mapL f l
end
theorem mapL_map (f : E → E) : ∀ l : List E, mapL f l = l.map (mapE f)
  | [] => rfl
  | e :: l => by rw [mapL, List.map_cons, mapL_map f l]
theorem mapE_leaf (f : E → E) (e : E) (h : e.args = []) : mapE f e = f (.mk e.op e.n e.m e.kind e.lit [] []) := by
  obtain ⟨op, n, m, k, lit, args, rels⟩ := e
  cases args with
  | nil => rw [mapE]; rfl
  | cons a l => cases h
theorem mapE_node (f : E → E) (e : E) (h : e.args ≠ []) : mapE f e = .mk e.op e.n e.m e.kind e.lit (e.args.map (mapE f)) [] := by
  obtain ⟨op, n, m, k, lit, args, rels⟩ := e
  cases args with
  | nil => exact absurd rfl h
  | cons a l => rw [mapE, mapL_map]; rfl
/-- in blocks that are old, or that came since -/
abbrev In2 (B s t : Nat) : Nat → Prop := fun b => (b < B ∨ s ≤ b) ∧ b < t
abbrev In3 (B s t : Nat) : Nat → Prop := fun b => (b < B ∨ s < b) ∧ b < t
/-- nine cells put into an array -/
abbrev setC9 (C : Array Value) (o : Nat) (a0 a1 a2 a3 a4 a5 a6 a7 a8 : Value) : Array Value := (((((((((C.setIfInBounds o a0).setIfInBounds (o + 1) a1).setIfInBounds (o + 2) a2).setIfInBounds (o + 3) a3).setIfInBounds (o + 4) a4).setIfInBounds (o + 5) a5).setIfInBounds (o + 6) a6).setIfInBounds (o + 7) a7).setIfInBounds (o + 8) a8)
theorem setC9_size (C : Array Value) (o : Nat) (a0 a1 a2 a3 a4 a5 a6 a7 a8 : Value) : (setC9 C o a0 a1 a2 a3 a4 a5 a6 a7 a8).size = C.size := by simp
theorem setC9_out (C : Array Value) (o : Nat) (a0 a1 a2 a3 a4 a5 a6 a7 a8 : Value) (k : Nat) (h : k < o ∨ o + 9 ≤ k) : (setC9 C o a0 a1 a2 a3 a4 a5 a6 a7 a8)[k]? = C[k]? := by
  unfold setC9
  rw [Array.getElem?_setIfInBounds_ne (by omega), Array.getElem?_setIfInBounds_ne (by omega), Array.getElem?_setIfInBounds_ne (by omega), Array.getElem?_setIfInBounds_ne (by omega), Array.getElem?_setIfInBounds_ne (by omega), Array.getElem?_setIfInBounds_ne (by omega), Array.getElem?_setIfInBounds_ne (by omega), Array.getElem?_setIfInBounds_ne (by omega), Array.getElem?_setIfInBounds_ne (by omega)]
theorem setC9_in (C : Array Value) (o : Nat) (a0 a1 a2 a3 a4 a5 a6 a7 a8 : Value) (h : o + 9 ≤ C.size) (j : Nat) (hj : j < 9) : (setC9 C o a0 a1 a2 a3 a4 a5 a6 a7 a8)[o + j]? = [a0, a1, a2, a3, a4, a5, a6, a7, a8][j]? := by
  have hj' : j = 0 ∨ j = 1 ∨ j = 2 ∨ j = 3 ∨ j = 4 ∨ j = 5 ∨ j = 6 ∨ j = 7 ∨ j = 8 := by omega
  unfold setC9
  rcases hj' with rfl | rfl | rfl | rfl | rfl | rfl | rfl | rfl | rfl
  · show ((((((((((C.setIfInBounds o a0).setIfInBounds (o + 1) a1).setIfInBounds (o + 2) a2).setIfInBounds (o + 3) a3).setIfInBounds (o + 4) a4).setIfInBounds (o + 5) a5).setIfInBounds (o + 6) a6).setIfInBounds (o + 7) a7).setIfInBounds (o + 8) a8))[o]? = some a0
    rw [Array.getElem?_setIfInBounds_ne (by omega), Array.getElem?_setIfInBounds_ne (by omega), Array.getElem?_setIfInBounds_ne (by omega), Array.getElem?_setIfInBounds_ne (by omega), Array.getElem?_setIfInBounds_ne (by omega), Array.getElem?_setIfInBounds_ne (by omega), Array.getElem?_setIfInBounds_ne (by omega), Array.getElem?_setIfInBounds_ne (by omega), Array.getElem?_setIfInBounds_self_of_lt (by omega)]
  · rw [Array.getElem?_setIfInBounds_ne (by omega), Array.getElem?_setIfInBounds_ne (by omega), Array.getElem?_setIfInBounds_ne (by omega), Array.getElem?_setIfInBounds_ne (by omega), Array.getElem?_setIfInBounds_ne (by omega), Array.getElem?_setIfInBounds_ne (by omega), Array.getElem?_setIfInBounds_ne (by omega), Array.getElem?_setIfInBounds_self_of_lt (by simp; omega)]; rfl
  · rw [Array.getElem?_setIfInBounds_ne (by omega), Array.getElem?_setIfInBounds_ne (by omega), Array.getElem?_setIfInBounds_ne (by omega), Array.getElem?_setIfInBounds_ne (by omega), Array.getElem?_setIfInBounds_ne (by omega), Array.getElem?_setIfInBounds_ne (by omega), Array.getElem?_setIfInBounds_self_of_lt (by simp; omega)]; rfl
  · rw [Array.getElem?_setIfInBounds_ne (by omega), Array.getElem?_setIfInBounds_ne (by omega), Array.getElem?_setIfInBounds_ne (by omega), Array.getElem?_setIfInBounds_ne (by omega), Array.getElem?_setIfInBounds_ne (by omega), Array.getElem?_setIfInBounds_self_of_lt (by simp; omega)]; rfl
  · rw [Array.getElem?_setIfInBounds_ne (by omega), Array.getElem?_setIfInBounds_ne (by omega), Array.getElem?_setIfInBounds_ne (by omega), Array.getElem?_setIfInBounds_ne (by omega), Array.getElem?_setIfInBounds_self_of_lt (by simp; omega)]; rfl
  · rw [Array.getElem?_setIfInBounds_ne (by omega), Array.getElem?_setIfInBounds_ne (by omega), Array.getElem?_setIfInBounds_ne (by omega), Array.getElem?_setIfInBounds_self_of_lt (by simp; omega)]; rfl
  · rw [Array.getElem?_setIfInBounds_ne (by omega), Array.getElem?_setIfInBounds_ne (by omega), Array.getElem?_setIfInBounds_self_of_lt (by simp; omega)]; rfl
  · rw [Array.getElem?_setIfInBounds_ne (by omega), Array.getElem?_setIfInBounds_self_of_lt (by simp; omega)]; rfl
  · rw [Array.getElem?_setIfInBounds_self_of_lt (by simp; omega)]; rfl
/-- the first expressions stand in a block -/
def HAt (C : Array Value) (l : List HE) : Prop := ∀ (i : Nat) (h : HE), l[i]? = some h → ∀ j, j < 9 → C[i * 9 + j]? = h.cells[j]?
theorem HAt.snoc {C : Array Value} {l : List HE} {n : Nat} (k : HAt C l) (h : HE) (hC : C.size = n * 9) (hn : l.length < n) : HAt (setC9 C (l.length * 9) (.int .i64 h.e.op) (.int .i64 h.e.n) (.int .i64 h.e.m) (.int .i64 h.e.kind) (.int .i64 h.e.lit.k) (.int .i64 h.e.lit.n) (.string h.e.lit.s) (.slice h.A h.e.args.length h.c) (.slice h.R h.e.rels.length h.d)) (l ++ [h]) := by
  intro i x hx j hj
  rcases Nat.lt_or_ge i l.length with hi | hi
  · rw [List.getElem?_append_left hi] at hx
    rw [setC9_out _ _ _ _ _ _ _ _ _ _ _ _ (.inl (by omega))]
    exact k i x hx j hj
  · have he : i = l.length := by
      have := (List.getElem?_eq_some_iff.1 hx).1
      simp at this; omega
    subst he
    have hxe : x = h := by simpa using hx.symm
    subst hxe
    rw [setC9_in _ _ _ _ _ _ _ _ _ _ _ (by omega) j hj]
    rfl
theorem HAt.reads {w : World} {g : Nat} {T : TypeId} {C : Array Value} {l : List HE} {P : Nat → Prop} (k : HAt C l) (hB : Blk w g T C) (hP : ∀ x ∈ l, x.ok w P) (hg : P g) : LOk w P (some ⟨g, 0, none⟩) (l.map HE.e) := LOk.of hg fun i hi => by
  rw [List.length_map] at hi
  simp only [List.getElem_map]
  refine (HE.reads (hP l[i] (List.getElem_mem hi))).ext fun j hj => ?_
  show w.cell? ⟨g, 0 + i * 9 + j, none⟩ = _
  rw [Nat.zero_add, hB.cell]
  exact k i l[i] (List.getElem?_eq_getElem hi) j hj
theorem makeEs (n : Nat) (hn : n ≤ 1000000) (w : World) : ∃ C : Array Value, C.size = n * 9 ∧ (Instr.makeSlice 22 (.int .i64 (n : Int)) (.int .i64 (n : Int))).run Tryz.prog w = .ok (.slice (some ⟨w.heap.size, 0, none⟩) n n) (w.alloc (.cells C 30)) := by
  obtain ⟨i0, hi, hz0, hz1, hz2⟩ := info_parts infoE
  have h := run_make (P := Tryz.prog) (w := w) 22 30 i0 (.agg #[.int .i64 0, .int .i64 0, .int .i64 0, .int .i64 0, .int .i64 0, .int .i64 0, .string ⟨#[]⟩, .slice none 0 0, .slice none 0 0]) Tryz.underlying22 hi hz0 .i64 .i64 (n : Int) (n : Int) (by omega) (Int.le_refl _) (by rw [hz2]; omega) (by omega)
  rw [hz1] at h
  simp only [Int.toNat_natCast] at h
  exact ⟨_, by simp [madeCells], h⟩
set_option maxHeartbeats 4000000 in
set_option maxRecDepth 100000 in
theorem eachX_any (gf : FuncId) (a1 : Value) (f : E → E) (B : Nat) (l : List E) (A : Option Addr) (c : Nat) (w : World) (hBw : B ≤ w.heap.size) (hl : l.length ≤ 1000000) (hA : LOk w (Lo w.heap.size) A l)
    (heg : ∀ args W, (callFunc gf args).run Tryz.prog W = .ok (.enter gf args) W)
    (hcall : ∀ e ∈ l, ∀ (A' R' : Option Addr) (c' d' : Nat) (w1 : World), Below w.heap.size w w1 → LOk w1 (Lo w1.heap.size) A' e.args → Calls Tryz.prog gf #[e.val A' c' R' d', a1] w1 fun x w' => ∃ h : HE, h.e = f e ∧ x = .returned h.val ∧ Below w1.heap.size w1 w' ∧ h.ok w' (In2 B w1.heap.size w'.heap.size)) :
    Calls Tryz.prog 94 #[.slice A l.length c, .func (.func gf) #[] #[a1]] w fun x w' => ∃ g, x = .returned (.slice (some ⟨g, 0, none⟩) l.length l.length) ∧ LOk w' (In2 B w.heap.size w'.heap.size) (some ⟨g, 0, none⟩) (l.map f) ∧ Below w.heap.size w w' := by
  have HA := Lib.hid (And.intro hA hcall)
  obtain ⟨C0, hC0, hmk⟩ := makeEs l.length hl w
  have HC0 := Lib.hid hC0
  clear hA hcall hC0
  go_enter Tryz.func94, Tryz.ntmps94
  go_wp2_with fail
  go_loopw [13] (fun iv wr => ∃ (j : Nat) (C : Array Value) (hs : List HE), j ≤ l.length ∧ iv = .int .i64 j ∧ Hid (Below w.heap.size w wr ∧ Blk wr w.heap.size 30 C) ∧ Hid (C.size = l.length * 9 ∧ HAt C hs ∧ hs.map HE.e = (l.take j).map f ∧ hs.length = j ∧ ∀ x ∈ hs, x.ok wr (In3 B w.heap.size wr.heap.size))) (fun iv _ => l.length - (intOf iv).toNat)
  case atStart => exact ⟨0, C0, [], Nat.zero_le _, rfl, ⟨al (Below.refl _ _) _, Blk.new _ _ _⟩, ⟨HC0.out, (fun i v h => by simp at h), rfl, rfl, fun x hx => by cases hx⟩⟩
  case round =>
    obtain ⟨j, C, hs, hj, rfl, HW, HC⟩ := hrel
    by_cases hlt : j < l.length
    · have hlti : (j : Int) < (l.length : Int) := by omega
      obtain ⟨b, o, rfl, hb, he⟩ := (HA.out.1.below HW.out.1 HW.out.1.size).at_ hlt
      obtain ⟨z0, z1, z2, z3, z4, z5, z6, ⟨A1, c1, z7, z8⟩, R1, d1, z9, z10⟩ := EOk.mk_.1 he
      have x0 : wr.cell? ⟨b, o + j * 9, none⟩ = some (.int .i64 l[j].op) := z0
      have x1 : wr.cell? ⟨b, o + j * 9 + 1, none⟩ = some (.int .i64 l[j].n) := z1
      have x2 : wr.cell? ⟨b, o + j * 9 + 2, none⟩ = some (.int .i64 l[j].m) := z2
      have x3 : wr.cell? ⟨b, o + j * 9 + 3, none⟩ = some (.int .i64 l[j].kind) := z3
      have x4 : wr.cell? ⟨b, o + j * 9 + 4, none⟩ = some (.int .i64 l[j].lit.k) := z4
      have x5 : wr.cell? ⟨b, o + j * 9 + 5, none⟩ = some (.int .i64 l[j].lit.n) := z5
      have x6 : wr.cell? ⟨b, o + j * 9 + 6, none⟩ = some (.string l[j].lit.s) := z6
      have x7 : wr.cell? ⟨b, o + j * 9 + 7, none⟩ = some (.slice A1 l[j].args.length c1) := z7
      have x8 : wr.cell? ⟨b, o + j * 9 + 8, none⟩ = some (.slice R1 l[j].rels.length d1) := z9
      have HK : Hid (∀ ob, Calls Tryz.prog gf #[l[j].val A1 c1 R1 d1, a1] (wr.alloc ob) fun x w' => ∃ h : HE, h.e = f l[j] ∧ x = .returned h.val ∧ Below (wr.alloc ob).heap.size (wr.alloc ob) w' ∧ h.ok w' (In2 B (wr.alloc ob).heap.size w'.heap.size)) := Lib.hid fun ob =>
        HA.out.2 _ (List.getElem_mem hlt) A1 R1 c1 d1 _ (al HW.out.1 _) (z8.below (al (Below.refl _ _) _) (by simp))
      have HTk : Hid ((l.take (j + 1)).map f = (l.take j).map f ++ [f l[j]]) := Lib.hid (by rw [List.take_succ_eq_append_getElem hlt, List.map_append]; rfl)
      clear z0 z1 z2 z3 z4 z5 z6 z7 z8 z9 z10 he
      generalize hfe : f l[j] = fe at *
      clear hfe
      generalize l[j] = ei at *
      unfold E.val at HK
      go_wp2_with fail
      refine (HK.out _).mono ?_
      rintro x w3 ⟨h, hhe, rfl, hb3, hok⟩
      have hB3 := (HW.out.2.alloc (.cells #[.int .i64 ei.op, .int .i64 ei.n, .int .i64 ei.m, .int .i64 ei.kind, .int .i64 ei.lit.k, .int .i64 ei.lit.n, .string ei.lit.s, .slice A1 ei.args.length c1, .slice R1 ei.rels.length d1] 30)).below hb3 (by have := HW.out.2.lt; simp; omega)
      have hCs := HC.out.1
      have hC0 : j * 9 < C.size := by omega
      have hC1 : j * 9 + 1 < C.size := by omega
      have hC2 : j * 9 + 2 < C.size := by omega
      have hC3 : j * 9 + 3 < C.size := by omega
      have hC4 : j * 9 + 4 < C.size := by omega
      have hC5 : j * 9 + 5 < C.size := by omega
      have hC6 : j * 9 + 6 < C.size := by omega
      have hC7 : j * 9 + 7 < C.size := by omega
      have hC8 : j * 9 + 8 < C.size := by omega
      have k0 := hB3.cell (j * 9)
      rw [Array.getElem?_eq_getElem hC0] at k0
      have f0 := hB3.frozen (j * 9)
      have k1 := hB3.cell (j * 9 + 1)
      rw [Array.getElem?_eq_getElem hC1] at k1
      have f1 := hB3.frozen (j * 9 + 1)
      have k2 := hB3.cell (j * 9 + 2)
      rw [Array.getElem?_eq_getElem hC2] at k2
      have f2 := hB3.frozen (j * 9 + 2)
      have k3 := hB3.cell (j * 9 + 3)
      rw [Array.getElem?_eq_getElem hC3] at k3
      have f3 := hB3.frozen (j * 9 + 3)
      have k4 := hB3.cell (j * 9 + 4)
      rw [Array.getElem?_eq_getElem hC4] at k4
      have f4 := hB3.frozen (j * 9 + 4)
      have k5 := hB3.cell (j * 9 + 5)
      rw [Array.getElem?_eq_getElem hC5] at k5
      have f5 := hB3.frozen (j * 9 + 5)
      have k6 := hB3.cell (j * 9 + 6)
      rw [Array.getElem?_eq_getElem hC6] at k6
      have f6 := hB3.frozen (j * 9 + 6)
      have k7 := hB3.cell (j * 9 + 7)
      rw [Array.getElem?_eq_getElem hC7] at k7
      have f7 := hB3.frozen (j * 9 + 7)
      have k8 := hB3.cell (j * 9 + 8)
      rw [Array.getElem?_eq_getElem hC8] at k8
      have f8 := hB3.frozen (j * 9 + 8)
      have HN : Hid ((Below w.heap.size w (World.setCell (World.setCell (World.setCell (World.setCell (World.setCell (World.setCell (World.setCell (World.setCell (World.setCell w3 ⟨w.heap.size, j * 9, none⟩ (.int .i64 h.e.op)) ⟨w.heap.size, j * 9 + 1, none⟩ (.int .i64 h.e.n)) ⟨w.heap.size, j * 9 + 2, none⟩ (.int .i64 h.e.m)) ⟨w.heap.size, j * 9 + 3, none⟩ (.int .i64 h.e.kind)) ⟨w.heap.size, j * 9 + 4, none⟩ (.int .i64 h.e.lit.k)) ⟨w.heap.size, j * 9 + 5, none⟩ (.int .i64 h.e.lit.n)) ⟨w.heap.size, j * 9 + 6, none⟩ (.string h.e.lit.s)) ⟨w.heap.size, j * 9 + 7, none⟩ (.slice h.A h.e.args.length h.c)) ⟨w.heap.size, j * 9 + 8, none⟩ (.slice h.R h.e.rels.length h.d)) ∧ Blk (World.setCell (World.setCell (World.setCell (World.setCell (World.setCell (World.setCell (World.setCell (World.setCell (World.setCell w3 ⟨w.heap.size, j * 9, none⟩ (.int .i64 h.e.op)) ⟨w.heap.size, j * 9 + 1, none⟩ (.int .i64 h.e.n)) ⟨w.heap.size, j * 9 + 2, none⟩ (.int .i64 h.e.m)) ⟨w.heap.size, j * 9 + 3, none⟩ (.int .i64 h.e.kind)) ⟨w.heap.size, j * 9 + 4, none⟩ (.int .i64 h.e.lit.k)) ⟨w.heap.size, j * 9 + 5, none⟩ (.int .i64 h.e.lit.n)) ⟨w.heap.size, j * 9 + 6, none⟩ (.string h.e.lit.s)) ⟨w.heap.size, j * 9 + 7, none⟩ (.slice h.A h.e.args.length h.c)) ⟨w.heap.size, j * 9 + 8, none⟩ (.slice h.R h.e.rels.length h.d)) w.heap.size 30 (setC9 C (j * 9) (.int .i64 h.e.op) (.int .i64 h.e.n) (.int .i64 h.e.m) (.int .i64 h.e.kind) (.int .i64 h.e.lit.k) (.int .i64 h.e.lit.n) (.string h.e.lit.s) (.slice h.A h.e.args.length h.c) (.slice h.R h.e.rels.length h.d))) ∧ (setC9 C (j * 9) (.int .i64 h.e.op) (.int .i64 h.e.n) (.int .i64 h.e.m) (.int .i64 h.e.kind) (.int .i64 h.e.lit.k) (.int .i64 h.e.lit.n) (.string h.e.lit.s) (.slice h.A h.e.args.length h.c) (.slice h.R h.e.rels.length h.d)).size = l.length * 9 ∧ HAt (setC9 C (j * 9) (.int .i64 h.e.op) (.int .i64 h.e.n) (.int .i64 h.e.m) (.int .i64 h.e.kind) (.int .i64 h.e.lit.k) (.int .i64 h.e.lit.n) (.string h.e.lit.s) (.slice h.A h.e.args.length h.c) (.slice h.R h.e.rels.length h.d)) (hs ++ [h]) ∧ (hs ++ [h]).map HE.e = (l.take (j + 1)).map f ∧ (hs ++ [h]).length = j + 1 ∧ ∀ x ∈ hs ++ [h], x.ok (World.setCell (World.setCell (World.setCell (World.setCell (World.setCell (World.setCell (World.setCell (World.setCell (World.setCell w3 ⟨w.heap.size, j * 9, none⟩ (.int .i64 h.e.op)) ⟨w.heap.size, j * 9 + 1, none⟩ (.int .i64 h.e.n)) ⟨w.heap.size, j * 9 + 2, none⟩ (.int .i64 h.e.m)) ⟨w.heap.size, j * 9 + 3, none⟩ (.int .i64 h.e.kind)) ⟨w.heap.size, j * 9 + 4, none⟩ (.int .i64 h.e.lit.k)) ⟨w.heap.size, j * 9 + 5, none⟩ (.int .i64 h.e.lit.n)) ⟨w.heap.size, j * 9 + 6, none⟩ (.string h.e.lit.s)) ⟨w.heap.size, j * 9 + 7, none⟩ (.slice h.A h.e.args.length h.c)) ⟨w.heap.size, j * 9 + 8, none⟩ (.slice h.R h.e.rels.length h.d)) (In3 B w.heap.size (World.setCell (World.setCell (World.setCell (World.setCell (World.setCell (World.setCell (World.setCell (World.setCell (World.setCell w3 ⟨w.heap.size, j * 9, none⟩ (.int .i64 h.e.op)) ⟨w.heap.size, j * 9 + 1, none⟩ (.int .i64 h.e.n)) ⟨w.heap.size, j * 9 + 2, none⟩ (.int .i64 h.e.m)) ⟨w.heap.size, j * 9 + 3, none⟩ (.int .i64 h.e.kind)) ⟨w.heap.size, j * 9 + 4, none⟩ (.int .i64 h.e.lit.k)) ⟨w.heap.size, j * 9 + 5, none⟩ (.int .i64 h.e.lit.n)) ⟨w.heap.size, j * 9 + 6, none⟩ (.string h.e.lit.s)) ⟨w.heap.size, j * 9 + 7, none⟩ (.slice h.A h.e.args.length h.c)) ⟨w.heap.size, j * 9 + 8, none⟩ (.slice h.R h.e.rels.length h.d)).heap.size)) := Lib.hid (by
        have hlj := HC.out.2.2.2.1
        have hs3 : (World.setCell (World.setCell (World.setCell (World.setCell (World.setCell (World.setCell (World.setCell (World.setCell (World.setCell w3 ⟨w.heap.size, j * 9, none⟩ (.int .i64 h.e.op)) ⟨w.heap.size, j * 9 + 1, none⟩ (.int .i64 h.e.n)) ⟨w.heap.size, j * 9 + 2, none⟩ (.int .i64 h.e.m)) ⟨w.heap.size, j * 9 + 3, none⟩ (.int .i64 h.e.kind)) ⟨w.heap.size, j * 9 + 4, none⟩ (.int .i64 h.e.lit.k)) ⟨w.heap.size, j * 9 + 5, none⟩ (.int .i64 h.e.lit.n)) ⟨w.heap.size, j * 9 + 6, none⟩ (.string h.e.lit.s)) ⟨w.heap.size, j * 9 + 7, none⟩ (.slice h.A h.e.args.length h.c)) ⟨w.heap.size, j * 9 + 8, none⟩ (.slice h.R h.e.rels.length h.d)).heap.size = w3.heap.size := by simp
        have hfar : ∀ b, b ≠ w.heap.size → (World.setCell (World.setCell (World.setCell (World.setCell (World.setCell (World.setCell (World.setCell (World.setCell (World.setCell w3 ⟨w.heap.size, j * 9, none⟩ (.int .i64 h.e.op)) ⟨w.heap.size, j * 9 + 1, none⟩ (.int .i64 h.e.n)) ⟨w.heap.size, j * 9 + 2, none⟩ (.int .i64 h.e.m)) ⟨w.heap.size, j * 9 + 3, none⟩ (.int .i64 h.e.kind)) ⟨w.heap.size, j * 9 + 4, none⟩ (.int .i64 h.e.lit.k)) ⟨w.heap.size, j * 9 + 5, none⟩ (.int .i64 h.e.lit.n)) ⟨w.heap.size, j * 9 + 6, none⟩ (.string h.e.lit.s)) ⟨w.heap.size, j * 9 + 7, none⟩ (.slice h.A h.e.args.length h.c)) ⟨w.heap.size, j * 9 + 8, none⟩ (.slice h.R h.e.rels.length h.d)).heap[b]? = w3.heap[b]? := fun b hb => by
          have k : ∀ (x : World) (i : Nat) (u : Value), (x.setCell ⟨w.heap.size, i, none⟩ u).heap[b]? = x.heap[b]? := fun x i u => Below.heap_setCell x ⟨w.heap.size, i, none⟩ u b hb
          rw [k, k, k, k, k, k, k, k, k]
        have hsw := HW.out.1.size
        have hs1 := hb3.size
        have hs2 : (wr.alloc (.cells #[.int .i64 ei.op, .int .i64 ei.n, .int .i64 ei.m, .int .i64 ei.kind, .int .i64 ei.lit.k, .int .i64 ei.lit.n, .string ei.lit.s, .slice A1 ei.args.length c1, .slice R1 ei.rels.length d1] 30)).heap.size = wr.heap.size + 1 := by simp
        refine ⟨⟨((((((((((thn (al HW.out.1 _) hb3).setCell (p := ⟨w.heap.size, j * 9, none⟩) (Nat.le_refl _) _).setCell (p := ⟨w.heap.size, j * 9 + 1, none⟩) (Nat.le_refl _) _).setCell (p := ⟨w.heap.size, j * 9 + 2, none⟩) (Nat.le_refl _) _).setCell (p := ⟨w.heap.size, j * 9 + 3, none⟩) (Nat.le_refl _) _).setCell (p := ⟨w.heap.size, j * 9 + 4, none⟩) (Nat.le_refl _) _).setCell (p := ⟨w.heap.size, j * 9 + 5, none⟩) (Nat.le_refl _) _).setCell (p := ⟨w.heap.size, j * 9 + 6, none⟩) (Nat.le_refl _) _).setCell (p := ⟨w.heap.size, j * 9 + 7, none⟩) (Nat.le_refl _) _).setCell (p := ⟨w.heap.size, j * 9 + 8, none⟩) (Nat.le_refl _) _), ((((((((hB3.set_ _ _).set_ _ _).set_ _ _).set_ _ _).set_ _ _).set_ _ _).set_ _ _).set_ _ _).set_ _ _⟩, (setC9_size _ _ _ _ _ _ _ _ _ _ _).trans hCs, ?_, ?_, ?_, ?_⟩
        · have k := HC.out.2.1.snoc h hCs (by omega)
          rw [hlj] at k
          exact k
        · rw [List.map_append, HC.out.2.2.1, HTk.out]
          show _ ++ [h.e] = _
          rw [hhe]
        · rw [List.length_append, hlj]; rfl
        · intro x hx
          rcases List.mem_append.1 hx with hx | hx
          · refine (HC.out.2.2.2.2 x hx).kept (fun b hb => ?_) fun b hb => ⟨hb.1, by rw [hs3]; have := hb.2; omega⟩
            rw [hfar b (by have := hb.1; omega)]
            exact (hb3.block b (by rw [hs2]; have := hb.2; omega)).trans (Below.heap_alloc wr _ b hb.2)
          · rw [List.mem_singleton] at hx
            subst hx
            exact hok.kept (fun b hb => hfar b (by have := hb.1; rw [hs2] at this; omega)) fun b hb => ⟨by have := hb.1; rw [hs2] at this; omega, by rw [hs3]; exact hb.2⟩)
      clear hb3 hB3 hok hhe hCs
      unfold HE.val E.val
      go_wp2_with fail
      exact ⟨⟨j + 1, _, _, by omega, by go_num, HN.out.1, HN.out.2⟩, by simp [intOf]; omega⟩
    · have hlf : decide ((j : Int) < (l.length : Int)) = false := decide_eq_false (by omega)
      have HV : Hid (LOk wr (In2 B w.heap.size wr.heap.size) (some ⟨w.heap.size, 0, none⟩) (l.map f)) := Lib.hid (by
        have h := HC.out.2.2.1
        rw [List.take_of_length_le (by omega)] at h
        rw [← h]
        exact HC.out.2.1.reads HW.out.2 (fun x hx => (HC.out.2.2.2.2 x hx).kept (fun _ _ => rfl) fun b hb => ⟨hb.1.imp id Nat.le_of_lt, hb.2⟩) ⟨.inr (Nat.le_refl _), HW.out.2.lt⟩)
      go_wp2_with fail
      go_ret
      exact ⟨w.heap.size, rfl, HV.out, HW.out.1⟩
end Go.Proofs.YtdiehgfldndgbaaGreatDoor
namespace Go.Proofs.YtdiehgfldndgbaaGreatDoor
open Go.RowKit Go.Deep

set_option maxHeartbeats 4000000 in
set_option maxRecDepth 100000 in
theorem rb1_any (e e' : E) (A R : Option Addr) (c d : Nat) (g1 : Nat) (lf : Value) (B : Nat) (w : World) (hBw : B ≤ w.heap.size) (hX : Blk w g1 40 #[lf])
    (hcall : ∀ w1, Below w.heap.size w w1 → Calls Tryz.prog 60 #[e.val A c R d, lf] w1 fun x w2 => ∃ h : HE, h.e = e' ∧ x = .returned h.val ∧ Below w1.heap.size w1 w2 ∧ h.ok w2 (In2 B w1.heap.size w2.heap.size)) :
    Calls Tryz.prog 95 #[e.val A c R d, .pointer (some ⟨g1, 0, none⟩)] w fun x w2 => ∃ h : HE, h.e = e' ∧ x = .returned h.val ∧ Below w.heap.size w w2 ∧ h.ok w2 (In2 B w.heap.size w2.heap.size) := by
  have hb1 : Below w.heap.size w ((w.alloc (.cells #[.int .i64 e.op, .int .i64 e.n, .int .i64 e.m, .int .i64 e.kind, .int .i64 e.lit.k, .int .i64 e.lit.n, .string e.lit.s, .slice A e.args.length c, .slice R e.rels.length d] 30)).alloc (.cells #[.int .i64 0, .int .i64 0, .int .i64 0, .int .i64 0, .int .i64 0, .int .i64 0, .string ⟨#[]⟩, .slice none 0 0, .slice none 0 0] 30)) := al (al (Below.refl _ _) _) _
  have HC := Lib.hid (And.intro hb1 (hcall ((w.alloc (.cells #[.int .i64 e.op, .int .i64 e.n, .int .i64 e.m, .int .i64 e.kind, .int .i64 e.lit.k, .int .i64 e.lit.n, .string e.lit.s, .slice A e.args.length c, .slice R e.rels.length d] 30)).alloc (.cells #[.int .i64 0, .int .i64 0, .int .i64 0, .int .i64 0, .int .i64 0, .int .i64 0, .string ⟨#[]⟩, .slice none 0 0, .slice none 0 0] 30)) hb1))
  clear hcall hb1
  have x1 := (hX.alloc (.cells #[.int .i64 e.op, .int .i64 e.n, .int .i64 e.m, .int .i64 e.kind, .int .i64 e.lit.k, .int .i64 e.lit.n, .string e.lit.s, .slice A e.args.length c, .slice R e.rels.length d] 30)).alloc (.cells #[.int .i64 0, .int .i64 0, .int .i64 0, .int .i64 0, .int .i64 0, .int .i64 0, .string ⟨#[]⟩, .slice none 0 0, .slice none 0 0] 30)
  have y1 := x1.cell 0
  simp only [List.getElem?_toArray, List.getElem?_cons_zero] at y1
  clear x1 hX
  unfold E.val at HC ⊢
  go_enter Tryz.func95, Tryz.ntmps95
  go_wp2_with fail
  refine HC.out.2.mono ?_
  rintro x w3 ⟨h, hhe, rfl, hb3, hok⟩
  have HB := Lib.hid ((Blk.new' (w := w.alloc (.cells #[.int .i64 e.op, .int .i64 e.n, .int .i64 e.m, .int .i64 e.kind, .int .i64 e.lit.k, .int .i64 e.lit.n, .string e.lit.s, .slice A e.args.length c, .slice R e.rels.length d] 30)) (g := w.heap.size + 1) (t := 30) (cs := #[.int .i64 0, .int .i64 0, .int .i64 0, .int .i64 0, .int .i64 0, .int .i64 0, .string ⟨#[]⟩, .slice none 0 0, .slice none 0 0]) (by simp)).below hb3 (by simp))
  have HP : Hid (h.e = e' ∧ Below w.heap.size w (set9 w3 (w.heap.size + 1) (.int .i64 h.e.op) (.int .i64 h.e.n) (.int .i64 h.e.m) (.int .i64 h.e.kind) (.int .i64 h.e.lit.k) (.int .i64 h.e.lit.n) (.string h.e.lit.s) (.slice h.A h.e.args.length h.c) (.slice h.R h.e.rels.length h.d)) ∧ h.ok (set9 w3 (w.heap.size + 1) (.int .i64 h.e.op) (.int .i64 h.e.n) (.int .i64 h.e.m) (.int .i64 h.e.kind) (.int .i64 h.e.lit.k) (.int .i64 h.e.lit.n) (.string h.e.lit.s) (.slice h.A h.e.args.length h.c) (.slice h.R h.e.rels.length h.d)) (In2 B w.heap.size (set9 w3 (w.heap.size + 1) (.int .i64 h.e.op) (.int .i64 h.e.n) (.int .i64 h.e.m) (.int .i64 h.e.kind) (.int .i64 h.e.lit.k) (.int .i64 h.e.lit.n) (.string h.e.lit.s) (.slice h.A h.e.args.length h.c) (.slice h.R h.e.rels.length h.d)).heap.size)) := Lib.hid ⟨hhe, st9 (thn HC.out.1 hb3) (by omega) _ _ _ _ _ _ _ _ _, hok.kept (fun b hb => set9_far _ _ _ _ _ _ _ _ _ _ _ b (by have := hb.1; simp at this; omega)) fun b hb => ⟨by have := hb.1; simp at this; omega, by rw [set9_size]; exact hb.2⟩⟩
  clear hb3 hok hhe HC
  unfold HE.val E.val
  have hq := HB.out
  have hql := hq.lt
  have f0 := hq.frozen 0
  have d0 := hq.cell 0
  have f1 := hq.frozen 1
  have d1 := hq.cell 1
  have f2 := hq.frozen 2
  have d2 := hq.cell 2
  have f3 := hq.frozen 3
  have d3 := hq.cell 3
  have f4 := hq.frozen 4
  have d4 := hq.cell 4
  have f5 := hq.frozen 5
  have d5 := hq.cell 5
  have f6 := hq.frozen 6
  have d6 := hq.cell 6
  have f7 := hq.frozen 7
  have d7 := hq.cell 7
  have f8 := hq.frozen 8
  have d8 := hq.cell 8
  simp only [List.getElem?_toArray, List.getElem?_cons_succ, List.getElem?_cons_zero] at d0 d1 d2 d3 d4 d5 d6 d7 d8
  clear hq
  have HB9 := Lib.hid (HB.out.set9_ (.int .i64 h.e.op) (.int .i64 h.e.n) (.int .i64 h.e.m) (.int .i64 h.e.kind) (.int .i64 h.e.lit.k) (.int .i64 h.e.lit.n) (.string h.e.lit.s) (.slice h.A h.e.args.length h.c) (.slice h.R h.e.rels.length h.d))
  go_wp2_with fail
  have k0 := HB9.out.cell 0
  have k1 := HB9.out.cell 1
  have k2 := HB9.out.cell 2
  have k3 := HB9.out.cell 3
  have k4 := HB9.out.cell 4
  have k5 := HB9.out.cell 5
  have k6 := HB9.out.cell 6
  have k7 := HB9.out.cell 7
  have k8 := HB9.out.cell 8
  simp at k0 k1 k2 k3 k4 k5 k6 k7 k8
  exact bodyPost_ret (v := .agg #[.int .i64 h.e.op, .int .i64 h.e.n, .int .i64 h.e.m, .int .i64 h.e.kind, .int .i64 h.e.lit.k, .int .i64 h.e.lit.n, .string h.e.lit.s, .slice h.A h.e.args.length h.c, .slice h.R h.e.rels.length h.d]) (by simp [results, Tryz.results95, go_sem, k0, k1, k2, k3, k4, k5, k6, k7, k8]) rfl ⟨h, HP.out.1, rfl, HP.out.2.1, HP.out.2.2⟩
set_option maxHeartbeats 4000000 in
set_option maxRecDepth 100000 in
theorem copied_of (e e' : E) (A R : Option Addr) (c d : Nat)  (B : Nat) (w : World) (hBw : B ≤ w.heap.size)
    (hcall : ∀ w1, Below w.heap.size w w1 → Calls Tryz.prog 60 #[e.val A c R d, .func (.func 133) #[] #[]] w1 fun x w2 => ∃ h : HE, h.e = e' ∧ x = .returned h.val ∧ Below w1.heap.size w1 w2 ∧ h.ok w2 (In2 B w1.heap.size w2.heap.size)) :
    Calls Tryz.prog 83 #[e.val A c R d] w fun x w2 => ∃ h : HE, h.e = e' ∧ x = .returned h.val ∧ Below w.heap.size w w2 ∧ h.ok w2 (In2 B w.heap.size w2.heap.size) := by
  have hb1 : Below w.heap.size w ((w.alloc (.cells #[.int .i64 e.op, .int .i64 e.n, .int .i64 e.m, .int .i64 e.kind, .int .i64 e.lit.k, .int .i64 e.lit.n, .string e.lit.s, .slice A e.args.length c, .slice R e.rels.length d] 30)).alloc (.cells #[.int .i64 0, .int .i64 0, .int .i64 0, .int .i64 0, .int .i64 0, .int .i64 0, .string ⟨#[]⟩, .slice none 0 0, .slice none 0 0] 30)) := al (al (Below.refl _ _) _) _
  have HC := Lib.hid (And.intro hb1 (hcall ((w.alloc (.cells #[.int .i64 e.op, .int .i64 e.n, .int .i64 e.m, .int .i64 e.kind, .int .i64 e.lit.k, .int .i64 e.lit.n, .string e.lit.s, .slice A e.args.length c, .slice R e.rels.length d] 30)).alloc (.cells #[.int .i64 0, .int .i64 0, .int .i64 0, .int .i64 0, .int .i64 0, .int .i64 0, .string ⟨#[]⟩, .slice none 0 0, .slice none 0 0] 30)) hb1))
  clear hcall hb1
  unfold E.val at HC ⊢
  go_enter Tryz.func83, Tryz.ntmps83
  go_wp2_with fail
  refine HC.out.2.mono ?_
  rintro x w3 ⟨h, hhe, rfl, hb3, hok⟩
  have HB := Lib.hid ((Blk.new' (w := w.alloc (.cells #[.int .i64 e.op, .int .i64 e.n, .int .i64 e.m, .int .i64 e.kind, .int .i64 e.lit.k, .int .i64 e.lit.n, .string e.lit.s, .slice A e.args.length c, .slice R e.rels.length d] 30)) (g := w.heap.size + 1) (t := 30) (cs := #[.int .i64 0, .int .i64 0, .int .i64 0, .int .i64 0, .int .i64 0, .int .i64 0, .string ⟨#[]⟩, .slice none 0 0, .slice none 0 0]) (by simp)).below hb3 (by simp))
  have HP : Hid (h.e = e' ∧ Below w.heap.size w (set9 w3 (w.heap.size + 1) (.int .i64 h.e.op) (.int .i64 h.e.n) (.int .i64 h.e.m) (.int .i64 h.e.kind) (.int .i64 h.e.lit.k) (.int .i64 h.e.lit.n) (.string h.e.lit.s) (.slice h.A h.e.args.length h.c) (.slice h.R h.e.rels.length h.d)) ∧ h.ok (set9 w3 (w.heap.size + 1) (.int .i64 h.e.op) (.int .i64 h.e.n) (.int .i64 h.e.m) (.int .i64 h.e.kind) (.int .i64 h.e.lit.k) (.int .i64 h.e.lit.n) (.string h.e.lit.s) (.slice h.A h.e.args.length h.c) (.slice h.R h.e.rels.length h.d)) (In2 B w.heap.size (set9 w3 (w.heap.size + 1) (.int .i64 h.e.op) (.int .i64 h.e.n) (.int .i64 h.e.m) (.int .i64 h.e.kind) (.int .i64 h.e.lit.k) (.int .i64 h.e.lit.n) (.string h.e.lit.s) (.slice h.A h.e.args.length h.c) (.slice h.R h.e.rels.length h.d)).heap.size)) := Lib.hid ⟨hhe, st9 (thn HC.out.1 hb3) (by omega) _ _ _ _ _ _ _ _ _, hok.kept (fun b hb => set9_far _ _ _ _ _ _ _ _ _ _ _ b (by have := hb.1; simp at this; omega)) fun b hb => ⟨by have := hb.1; simp at this; omega, by rw [set9_size]; exact hb.2⟩⟩
  clear hb3 hok hhe HC
  unfold HE.val E.val
  have hq := HB.out
  have hql := hq.lt
  have f0 := hq.frozen 0
  have d0 := hq.cell 0
  have f1 := hq.frozen 1
  have d1 := hq.cell 1
  have f2 := hq.frozen 2
  have d2 := hq.cell 2
  have f3 := hq.frozen 3
  have d3 := hq.cell 3
  have f4 := hq.frozen 4
  have d4 := hq.cell 4
  have f5 := hq.frozen 5
  have d5 := hq.cell 5
  have f6 := hq.frozen 6
  have d6 := hq.cell 6
  have f7 := hq.frozen 7
  have d7 := hq.cell 7
  have f8 := hq.frozen 8
  have d8 := hq.cell 8
  simp only [List.getElem?_toArray, List.getElem?_cons_succ, List.getElem?_cons_zero] at d0 d1 d2 d3 d4 d5 d6 d7 d8
  clear hq
  have HB9 := Lib.hid (HB.out.set9_ (.int .i64 h.e.op) (.int .i64 h.e.n) (.int .i64 h.e.m) (.int .i64 h.e.kind) (.int .i64 h.e.lit.k) (.int .i64 h.e.lit.n) (.string h.e.lit.s) (.slice h.A h.e.args.length h.c) (.slice h.R h.e.rels.length h.d))
  go_wp2_with fail
  have k0 := HB9.out.cell 0
  have k1 := HB9.out.cell 1
  have k2 := HB9.out.cell 2
  have k3 := HB9.out.cell 3
  have k4 := HB9.out.cell 4
  have k5 := HB9.out.cell 5
  have k6 := HB9.out.cell 6
  have k7 := HB9.out.cell 7
  have k8 := HB9.out.cell 8
  simp at k0 k1 k2 k3 k4 k5 k6 k7 k8
  exact bodyPost_ret (v := .agg #[.int .i64 h.e.op, .int .i64 h.e.n, .int .i64 h.e.m, .int .i64 h.e.kind, .int .i64 h.e.lit.k, .int .i64 h.e.lit.n, .string h.e.lit.s, .slice h.A h.e.args.length h.c, .slice h.R h.e.rels.length h.d]) (by simp [results, Tryz.results83, go_sem, k0, k1, k2, k3, k4, k5, k6, k7, k8]) rfl ⟨h, HP.out.1, rfl, HP.out.2.1, HP.out.2.2⟩
set_option maxHeartbeats 8000000 in
set_option maxRecDepth 100000 in
theorem rebuilt_any (f : E → E) (gf : FuncId) (B : Nat) (w0 : World) (hBw : B ≤ w0.heap.size)
    (heg : ∀ args W, (callFunc gf args).run Tryz.prog W = .ok (.enter gf args) W)
    (HL : ∀ (x : E) (w1 : World), x.args = [] → x.rels = [] → Below w0.heap.size w0 w1 → Calls Tryz.prog gf #[x.val none 0 none 0] w1 fun y w2 => ∃ h : HE, h.e = f x ∧ y = .returned h.val ∧ Below w1.heap.size w1 w2 ∧ h.ok w2 (In2 B w1.heap.size w2.heap.size)) :
    ∀ (k : Nat) (e : E) (A R : Option Addr) (c d : Nat) (w : World), nodesE e < k → k ≤ 1000000 → Below w0.heap.size w0 w → LOk w (Lo w.heap.size) A e.args →
    Calls Tryz.prog 60 #[e.val A c R d, .func (.func gf) #[] #[]] w fun x w2 => ∃ h : HE, h.e = mapE f e ∧ x = .returned h.val ∧ Below w.heap.size w w2 ∧ h.ok w2 (In2 B w.heap.size w2.heap.size) := by
  intro k
  induction k with
  | zero => intro e A R c d w h; exact absurd h (Nat.not_lt_zero _)
  | succ k ih =>
    intro e A R c d w hk hk1 hb0 hA
    have hw0 := hb0.size
    have hnE := nodesE_args e
    have hln := nodesL_len e.args
    have hmf : ∀ (fn : Fn) (first cap : Array Value) (w : World), (Instr.makeFunc fn first cap).run Tryz.prog w = .ok (.func fn first cap) w := fun _ _ _ _ => rfl
    by_cases h0 : e.args = []
    · have h0l : e.args.length = 0 := by rw [h0]; rfl
      have h0b : ((e.args.length : Int) == 0) = true := by rw [h0l]; rfl
      have h0n : (e.args.length == 0) = true := by rw [h0l]; rfl
      have hbl : Below w.heap.size w (((w.alloc (.cells #[.int .i64 e.op, .int .i64 e.n, .int .i64 e.m, .int .i64 e.kind, .int .i64 e.lit.k, .int .i64 e.lit.n, .string e.lit.s, .slice none 0 0, .slice none 0 0] 30)).alloc (.cells #[.func (.func gf) #[] #[]] 40)).alloc (.cells #[.int .i64 0, .int .i64 0, .int .i64 0, .int .i64 0, .int .i64 0, .int .i64 0, .string ⟨#[]⟩, .slice none 0 0, .slice none 0 0] 30)) := al (al (al (Below.refl _ _) _) _) _
      have HC := Lib.hid (And.intro hbl (And.intro (HL (.mk e.op e.n e.m e.kind e.lit [] []) (((w.alloc (.cells #[.int .i64 e.op, .int .i64 e.n, .int .i64 e.m, .int .i64 e.kind, .int .i64 e.lit.k, .int .i64 e.lit.n, .string e.lit.s, .slice none 0 0, .slice none 0 0] 30)).alloc (.cells #[.func (.func gf) #[] #[]] 40)).alloc (.cells #[.int .i64 0, .int .i64 0, .int .i64 0, .int .i64 0, .int .i64 0, .int .i64 0, .string ⟨#[]⟩, .slice none 0 0, .slice none 0 0] 30)) rfl rfl (thn hb0 hbl)) (mapE_leaf f e h0)))
      have H1 : Hid (Blk (((w.alloc (.cells #[.int .i64 e.op, .int .i64 e.n, .int .i64 e.m, .int .i64 e.kind, .int .i64 e.lit.k, .int .i64 e.lit.n, .string e.lit.s, .slice A e.args.length c, .slice none 0 0] 30)).alloc (.cells #[.func (.func gf) #[] #[]] 40)).alloc (.cells #[.int .i64 0, .int .i64 0, .int .i64 0, .int .i64 0, .int .i64 0, .int .i64 0, .string ⟨#[]⟩, .slice none 0 0, .slice none 0 0] 30)) w.heap.size 30 #[.int .i64 e.op, .int .i64 e.n, .int .i64 e.m, .int .i64 e.kind, .int .i64 e.lit.k, .int .i64 e.lit.n, .string e.lit.s, .slice A e.args.length c, .slice none 0 0] ∧ Blk (((w.alloc (.cells #[.int .i64 e.op, .int .i64 e.n, .int .i64 e.m, .int .i64 e.kind, .int .i64 e.lit.k, .int .i64 e.lit.n, .string e.lit.s, .slice none 0 0, .slice none 0 0] 30)).alloc (.cells #[.func (.func gf) #[] #[]] 40)).alloc (.cells #[.int .i64 0, .int .i64 0, .int .i64 0, .int .i64 0, .int .i64 0, .int .i64 0, .string ⟨#[]⟩, .slice none 0 0, .slice none 0 0] 30)) w.heap.size 30 #[.int .i64 e.op, .int .i64 e.n, .int .i64 e.m, .int .i64 e.kind, .int .i64 e.lit.k, .int .i64 e.lit.n, .string e.lit.s, .slice none 0 0, .slice none 0 0] ∧ Blk (((w.alloc (.cells #[.int .i64 e.op, .int .i64 e.n, .int .i64 e.m, .int .i64 e.kind, .int .i64 e.lit.k, .int .i64 e.lit.n, .string e.lit.s, .slice none 0 0, .slice none 0 0] 30)).alloc (.cells #[.func (.func gf) #[] #[]] 40)).alloc (.cells #[.int .i64 0, .int .i64 0, .int .i64 0, .int .i64 0, .int .i64 0, .int .i64 0, .string ⟨#[]⟩, .slice none 0 0, .slice none 0 0] 30)) (w.heap.size + 1) 40 #[.func (.func gf) #[] #[]] ∧ Blk (((w.alloc (.cells #[.int .i64 e.op, .int .i64 e.n, .int .i64 e.m, .int .i64 e.kind, .int .i64 e.lit.k, .int .i64 e.lit.n, .string e.lit.s, .slice none 0 0, .slice none 0 0] 30)).alloc (.cells #[.func (.func gf) #[] #[]] 40)).alloc (.cells #[.int .i64 0, .int .i64 0, .int .i64 0, .int .i64 0, .int .i64 0, .int .i64 0, .string ⟨#[]⟩, .slice none 0 0, .slice none 0 0] 30)) (w.heap.size + 1 + 1) 30 #[.int .i64 0, .int .i64 0, .int .i64 0, .int .i64 0, .int .i64 0, .int .i64 0, .string ⟨#[]⟩, .slice none 0 0, .slice none 0 0]) := Lib.hid ⟨((Blk.new w _ _).alloc _).alloc _, ((Blk.new w _ _).alloc _).alloc _, (Blk.new' (by simp)).alloc _, Blk.new' (by simp)⟩
      clear ih hA hb0 hbl h0 h0l
      unfold E.val at HC ⊢
      go_enter Tryz.func60, Tryz.ntmps60
      go_upto_region 4 with fail
      go_wp2_with fail
      refine HC.out.2.1.mono ?_
      rintro x w3 ⟨h, hhe, rfl, hb3, hok⟩
      have HB := Lib.hid (H1.out.2.2.2.below hb3 H1.out.2.2.2.lt)
      have HP : Hid (h.e = mapE f e ∧ Below w.heap.size w (set9 w3 (w.heap.size + 1 + 1) (.int .i64 h.e.op) (.int .i64 h.e.n) (.int .i64 h.e.m) (.int .i64 h.e.kind) (.int .i64 h.e.lit.k) (.int .i64 h.e.lit.n) (.string h.e.lit.s) (.slice h.A h.e.args.length h.c) (.slice h.R h.e.rels.length h.d)) ∧ h.ok (set9 w3 (w.heap.size + 1 + 1) (.int .i64 h.e.op) (.int .i64 h.e.n) (.int .i64 h.e.m) (.int .i64 h.e.kind) (.int .i64 h.e.lit.k) (.int .i64 h.e.lit.n) (.string h.e.lit.s) (.slice h.A h.e.args.length h.c) (.slice h.R h.e.rels.length h.d)) (In2 B w.heap.size (set9 w3 (w.heap.size + 1 + 1) (.int .i64 h.e.op) (.int .i64 h.e.n) (.int .i64 h.e.m) (.int .i64 h.e.kind) (.int .i64 h.e.lit.k) (.int .i64 h.e.lit.n) (.string h.e.lit.s) (.slice h.A h.e.args.length h.c) (.slice h.R h.e.rels.length h.d)).heap.size)) := Lib.hid ⟨hhe.trans HC.out.2.2.symm, st9 (thn HC.out.1 hb3) (by omega) _ _ _ _ _ _ _ _ _, hok.kept (fun b hb => set9_far _ _ _ _ _ _ _ _ _ _ _ b (by have := hb.1; simp at this; omega)) fun b hb => ⟨by have := hb.1; simp at this; omega, by rw [set9_size]; exact hb.2⟩⟩
      clear hb3 hok hhe HC H1
      unfold HE.val E.val
      have hq := HB.out
      have hql := hq.lt
      have f0 := hq.frozen 0
      have d0 := hq.cell 0
      have f1 := hq.frozen 1
      have d1 := hq.cell 1
      have f2 := hq.frozen 2
      have d2 := hq.cell 2
      have f3 := hq.frozen 3
      have d3 := hq.cell 3
      have f4 := hq.frozen 4
      have d4 := hq.cell 4
      have f5 := hq.frozen 5
      have d5 := hq.cell 5
      have f6 := hq.frozen 6
      have d6 := hq.cell 6
      have f7 := hq.frozen 7
      have d7 := hq.cell 7
      have f8 := hq.frozen 8
      have d8 := hq.cell 8
      simp only [List.getElem?_toArray, List.getElem?_cons_succ, List.getElem?_cons_zero] at d0 d1 d2 d3 d4 d5 d6 d7 d8
      clear hq
      have HB9 := Lib.hid (HB.out.set9_ (.int .i64 h.e.op) (.int .i64 h.e.n) (.int .i64 h.e.m) (.int .i64 h.e.kind) (.int .i64 h.e.lit.k) (.int .i64 h.e.lit.n) (.string h.e.lit.s) (.slice h.A h.e.args.length h.c) (.slice h.R h.e.rels.length h.d))
      go_wp2_with fail
      have k0 := HB9.out.cell 0
      have k1 := HB9.out.cell 1
      have k2 := HB9.out.cell 2
      have k3 := HB9.out.cell 3
      have k4 := HB9.out.cell 4
      have k5 := HB9.out.cell 5
      have k6 := HB9.out.cell 6
      have k7 := HB9.out.cell 7
      have k8 := HB9.out.cell 8
      simp at k0 k1 k2 k3 k4 k5 k6 k7 k8
      exact bodyPost_ret (v := .agg #[.int .i64 h.e.op, .int .i64 h.e.n, .int .i64 h.e.m, .int .i64 h.e.kind, .int .i64 h.e.lit.k, .int .i64 h.e.lit.n, .string h.e.lit.s, .slice h.A h.e.args.length h.c, .slice h.R h.e.rels.length h.d]) (by simp [results, Tryz.results60, go_sem, k0, k1, k2, k3, k4, k5, k6, k7, k8]) rfl ⟨h, HP.out.1, rfl, HP.out.2.1, HP.out.2.2⟩
    · have h0l : 0 < e.args.length := List.length_pos_iff.2 h0
      have h0b : ((e.args.length : Int) == 0) = false := beq_eq_false_iff_ne.2 (by omega)
      have h0n : (e.args.length == 0) = false := beq_eq_false_iff_ne.2 (by omega)
      have hbl : Below w.heap.size w (((w.alloc (.cells #[.int .i64 e.op, .int .i64 e.n, .int .i64 e.m, .int .i64 e.kind, .int .i64 e.lit.k, .int .i64 e.lit.n, .string e.lit.s, .slice A e.args.length c, .slice none 0 0] 30)).alloc (.cells #[.func (.func gf) #[] #[]] 40)).alloc (.cells #[.int .i64 0, .int .i64 0, .int .i64 0, .int .i64 0, .int .i64 0, .int .i64 0, .string ⟨#[]⟩, .slice none 0 0, .slice none 0 0] 30)) := al (al (al (Below.refl _ _) _) _) _
      have H1 : Hid (Blk (((w.alloc (.cells #[.int .i64 e.op, .int .i64 e.n, .int .i64 e.m, .int .i64 e.kind, .int .i64 e.lit.k, .int .i64 e.lit.n, .string e.lit.s, .slice A e.args.length c, .slice none 0 0] 30)).alloc (.cells #[.func (.func gf) #[] #[]] 40)).alloc (.cells #[.int .i64 0, .int .i64 0, .int .i64 0, .int .i64 0, .int .i64 0, .int .i64 0, .string ⟨#[]⟩, .slice none 0 0, .slice none 0 0] 30)) w.heap.size 30 #[.int .i64 e.op, .int .i64 e.n, .int .i64 e.m, .int .i64 e.kind, .int .i64 e.lit.k, .int .i64 e.lit.n, .string e.lit.s, .slice A e.args.length c, .slice none 0 0] ∧ Blk (((w.alloc (.cells #[.int .i64 e.op, .int .i64 e.n, .int .i64 e.m, .int .i64 e.kind, .int .i64 e.lit.k, .int .i64 e.lit.n, .string e.lit.s, .slice A e.args.length c, .slice none 0 0] 30)).alloc (.cells #[.func (.func gf) #[] #[]] 40)).alloc (.cells #[.int .i64 0, .int .i64 0, .int .i64 0, .int .i64 0, .int .i64 0, .int .i64 0, .string ⟨#[]⟩, .slice none 0 0, .slice none 0 0] 30)) (w.heap.size + 1) 40 #[.func (.func gf) #[] #[]] ∧ Blk (((w.alloc (.cells #[.int .i64 e.op, .int .i64 e.n, .int .i64 e.m, .int .i64 e.kind, .int .i64 e.lit.k, .int .i64 e.lit.n, .string e.lit.s, .slice A e.args.length c, .slice none 0 0] 30)).alloc (.cells #[.func (.func gf) #[] #[]] 40)).alloc (.cells #[.int .i64 0, .int .i64 0, .int .i64 0, .int .i64 0, .int .i64 0, .int .i64 0, .string ⟨#[]⟩, .slice none 0 0, .slice none 0 0] 30)) (w.heap.size + 1 + 1) 30 #[.int .i64 0, .int .i64 0, .int .i64 0, .int .i64 0, .int .i64 0, .int .i64 0, .string ⟨#[]⟩, .slice none 0 0, .slice none 0 0]) := Lib.hid ⟨((Blk.new w _ _).alloc _).alloc _, (Blk.new' (by simp)).alloc _, Blk.new' (by simp)⟩
      have HC := Lib.hid (And.intro hbl (eachX_any 95 (.pointer (some ⟨w.heap.size + 1, 0, none⟩)) (mapE f) B e.args A c (((w.alloc (.cells #[.int .i64 e.op, .int .i64 e.n, .int .i64 e.m, .int .i64 e.kind, .int .i64 e.lit.k, .int .i64 e.lit.n, .string e.lit.s, .slice A e.args.length c, .slice none 0 0] 30)).alloc (.cells #[.func (.func gf) #[] #[]] 40)).alloc (.cells #[.int .i64 0, .int .i64 0, .int .i64 0, .int .i64 0, .int .i64 0, .int .i64 0, .string ⟨#[]⟩, .slice none 0 0, .slice none 0 0] 30)) (by have := hbl.size; omega) (by omega) (hA.below hbl hbl.size) (enters_of Tryz.func95 (by kernel_rfl) rfl) fun x hx A' R' c' d' w1 hb hA' =>
        rb1_any x (mapE f x) A' R' c' d' (w.heap.size + 1) (.func (.func gf) #[] #[]) B w1 (by have := hbl.size; have := hb.size; omega) (H1.out.2.1.below hb H1.out.2.1.lt) fun w2 hb2 => ih x A' R' c' d' w2 (by have := nodesL_mem hx; omega) (by omega) (thn hb0 (thn hbl (thn hb hb2))) (hA'.below hb2 hb2.size)))
      have HM := Lib.hid (mapE_node f e h0)
      clear ih hA hb0 hbl h0
      unfold E.val
      go_enter Tryz.func60, Tryz.ntmps60
      go_wp2_with fail
      refine HC.out.2.mono ?_
      rintro x w3 ⟨g, rfl, hL, hb3⟩
      have HB0 := Lib.hid (H1.out.1.below hb3 H1.out.1.lt)
      have HB2 := Lib.hid (H1.out.2.2.below hb3 H1.out.2.2.lt)
      have HB4 : Hid (Blk (w3.setCell ⟨w.heap.size, 7, none⟩ (.slice (some ⟨g, 0, none⟩) e.args.length e.args.length)) w.heap.size 30 #[.int .i64 e.op, .int .i64 e.n, .int .i64 e.m, .int .i64 e.kind, .int .i64 e.lit.k, .int .i64 e.lit.n, .string e.lit.s, .slice (some ⟨g, 0, none⟩) e.args.length e.args.length, .slice none 0 0] ∧ Blk (w3.setCell ⟨w.heap.size, 7, none⟩ (.slice (some ⟨g, 0, none⟩) e.args.length e.args.length)) (w.heap.size + 1 + 1) 30 #[.int .i64 0, .int .i64 0, .int .i64 0, .int .i64 0, .int .i64 0, .int .i64 0, .string ⟨#[]⟩, .slice none 0 0, .slice none 0 0]) := Lib.hid ⟨HB0.out.set_ 7 _, HB2.out.far (show w.heap.size + 1 + 1 ≠ w.heap.size by omega) _⟩
      have HP : Hid (Below w.heap.size w (set9 (w3.setCell ⟨w.heap.size, 7, none⟩ (.slice (some ⟨g, 0, none⟩) e.args.length e.args.length)) (w.heap.size + 1 + 1) (.int .i64 e.op) (.int .i64 e.n) (.int .i64 e.m) (.int .i64 e.kind) (.int .i64 e.lit.k) (.int .i64 e.lit.n) (.string e.lit.s) (.slice (some ⟨g, 0, none⟩) e.args.length e.args.length) (.slice none 0 0)) ∧ LOk (set9 (w3.setCell ⟨w.heap.size, 7, none⟩ (.slice (some ⟨g, 0, none⟩) e.args.length e.args.length)) (w.heap.size + 1 + 1) (.int .i64 e.op) (.int .i64 e.n) (.int .i64 e.m) (.int .i64 e.kind) (.int .i64 e.lit.k) (.int .i64 e.lit.n) (.string e.lit.s) (.slice (some ⟨g, 0, none⟩) e.args.length e.args.length) (.slice none 0 0)) (In2 B w.heap.size (set9 (w3.setCell ⟨w.heap.size, 7, none⟩ (.slice (some ⟨g, 0, none⟩) e.args.length e.args.length)) (w.heap.size + 1 + 1) (.int .i64 e.op) (.int .i64 e.n) (.int .i64 e.m) (.int .i64 e.kind) (.int .i64 e.lit.k) (.int .i64 e.lit.n) (.string e.lit.s) (.slice (some ⟨g, 0, none⟩) e.args.length e.args.length) (.slice none 0 0)).heap.size) (some ⟨g, 0, none⟩) (e.args.map (mapE f))) := Lib.hid ⟨st9 ((thn HC.out.1 hb3).setCell (p := ⟨w.heap.size, 7, none⟩) (Nat.le_refl _) _) (by omega) _ _ _ _ _ _ _ _ _, hL.kept (fun b hb => (set9_far _ _ _ _ _ _ _ _ _ _ _ b (by have := hb.1; simp at this; omega)).trans (Below.heap_setCell w3 ⟨w.heap.size, 7, none⟩ _ b (show b ≠ w.heap.size by have := hb.1; simp at this; omega))) fun b hb => ⟨by have := hb.1; simp at this; omega, by rw [set9_size]; simpa using hb.2⟩⟩
      clear hb3 hL HC H1
      have f7 := HB0.out.frozen 7
      have d7 := HB0.out.cell 7
      simp only [List.getElem?_toArray, List.getElem?_cons_succ, List.getElem?_cons_zero] at d7
      go_upto_region 6 with fail
      change Code.wp _ _ _ _ (w3.setCell ⟨w.heap.size, 7, none⟩ (.slice (some ⟨g, 0, none⟩) e.args.length e.args.length))
      clear f7 d7
      have hq := HB4.out.1
      have x0 := hq.cell 0
      have x1 := hq.cell 1
      have x2 := hq.cell 2
      have x3 := hq.cell 3
      have x4 := hq.cell 4
      have x5 := hq.cell 5
      have x6 := hq.cell 6
      have x7 := hq.cell 7
      have x8 := hq.cell 8
      simp only [List.getElem?_toArray, List.getElem?_cons_succ, List.getElem?_cons_zero] at x0 x1 x2 x3 x4 x5 x6 x7 x8
      clear hq
      have hq := HB4.out.2
      have hql := hq.lt
      have f0 := hq.frozen 0
      have d0 := hq.cell 0
      have f1 := hq.frozen 1
      have d1 := hq.cell 1
      have f2 := hq.frozen 2
      have d2 := hq.cell 2
      have f3 := hq.frozen 3
      have d3 := hq.cell 3
      have f4 := hq.frozen 4
      have d4 := hq.cell 4
      have f5 := hq.frozen 5
      have d5 := hq.cell 5
      have f6 := hq.frozen 6
      have d6 := hq.cell 6
      have f7 := hq.frozen 7
      have d7 := hq.cell 7
      have f8 := hq.frozen 8
      have d8 := hq.cell 8
      simp only [List.getElem?_toArray, List.getElem?_cons_succ, List.getElem?_cons_zero] at d0 d1 d2 d3 d4 d5 d6 d7 d8
      clear hq
      have HB9 := Lib.hid (HB4.out.2.set9_ (.int .i64 e.op) (.int .i64 e.n) (.int .i64 e.m) (.int .i64 e.kind) (.int .i64 e.lit.k) (.int .i64 e.lit.n) (.string e.lit.s) (.slice (some ⟨g, 0, none⟩) e.args.length e.args.length) (.slice none 0 0))
      go_wp2_with fail
      have k0 := HB9.out.cell 0
      have k1 := HB9.out.cell 1
      have k2 := HB9.out.cell 2
      have k3 := HB9.out.cell 3
      have k4 := HB9.out.cell 4
      have k5 := HB9.out.cell 5
      have k6 := HB9.out.cell 6
      have k7 := HB9.out.cell 7
      have k8 := HB9.out.cell 8
      simp at k0 k1 k2 k3 k4 k5 k6 k7 k8
      exact bodyPost_ret (v := .agg #[.int .i64 e.op, .int .i64 e.n, .int .i64 e.m, .int .i64 e.kind, .int .i64 e.lit.k, .int .i64 e.lit.n, .string e.lit.s, .slice (some ⟨g, 0, none⟩) e.args.length e.args.length, .slice none 0 0]) (by simp [results, Tryz.results60, go_sem, k0, k1, k2, k3, k4, k5, k6, k7, k8]) rfl ⟨⟨mapE f e, some ⟨g, 0, none⟩, e.args.length, none, 0⟩, rfl, by rw [HM.out]; simp [HE.val, E.val, E.op, E.n, E.m, E.kind, E.lit, E.args, E.rels], HP.out.1, by show LOk _ _ _ (mapE f e).args; rw [HM.out]; exact HP.out.2, by show ROk _ _ _ (mapE f e).rels; rw [HM.out]; exact fun h => absurd h (Nat.lt_irrefl 0)⟩
end Go.Proofs.YtdiehgfldndgbaaGreatDoor
namespace Go.Proofs.YtdiehgfldndgbaaGreatDoor
open Go.RowKit Go.Deep

mutual
/-- the leaves of an expression, as the leaf function gets them -/
def lvsE : E → List E
  | .mk op n m k lit args _ => match args with
    | [] => [.mk op n m k lit [] []]
    | a :: l => lvsE a ++ lvsL l
def lvsL : List E → List E
  | [] => []
  | e :: l => lvsE e ++ lvsL l
end
theorem lvsE_leaf (e : E) (h : e.args = []) : lvsE e = [.mk e.op e.n e.m e.kind e.lit [] []] := by
  obtain ⟨op, n, m, k, lit, args, rels⟩ := e
  cases args with
  | nil => rw [lvsE]; rfl
  | cons a l => cases h
theorem lvsL_mem : ∀ {l : List E} {x y : E}, x ∈ l → y ∈ lvsE x → y ∈ lvsL l
  | e :: l, x, y, hx, hy => by
    rw [lvsL]
    rcases List.mem_cons.1 hx with rfl | hx
    · exact List.mem_append_left _ hy
    · exact List.mem_append_right _ (lvsL_mem hx hy)
theorem lvsE_mem {e x y : E} (h : e.args ≠ []) (hx : x ∈ e.args) (hy : y ∈ lvsE x) : y ∈ lvsE e := by
  obtain ⟨op, n, m, k, lit, args, rels⟩ := e
  cases args with
  | nil => exact absurd rfl h
  | cons a l =>
    rw [lvsE]
    exact lvsL_mem (l := a :: l) hx hy
set_option maxHeartbeats 8000000 in
set_option maxRecDepth 100000 in
theorem rebuiltC_any (f : E → E) (gf : FuncId) (cp : Value) (Q : E → Prop) (B : Nat) (w0 : World) (hBw : B ≤ w0.heap.size)
    (heg : ∀ args W, (callFunc gf args).run Tryz.prog W = .ok (.enter gf args) W)
    (HL : ∀ (x : E) (w1 : World), x.args = [] → x.rels = [] → Q x → Below w0.heap.size w0 w1 → Calls Tryz.prog gf #[x.val none 0 none 0, cp] w1 fun y w2 => ∃ h : HE, h.e = f x ∧ y = .returned h.val ∧ Below w1.heap.size w1 w2 ∧ h.ok w2 (In2 B w1.heap.size w2.heap.size)) :
    ∀ (k : Nat) (e : E) (A R : Option Addr) (c d : Nat) (w : World), nodesE e < k → k ≤ 1000000 → Below w0.heap.size w0 w → LOk w (Lo w.heap.size) A e.args → (∀ x ∈ lvsE e, Q x) →
    Calls Tryz.prog 60 #[e.val A c R d, .func (.func gf) #[] #[cp]] w fun x w2 => ∃ h : HE, h.e = mapE f e ∧ x = .returned h.val ∧ Below w.heap.size w w2 ∧ h.ok w2 (In2 B w.heap.size w2.heap.size) := by
  intro k
  induction k with
  | zero => intro e A R c d w h; exact absurd h (Nat.not_lt_zero _)
  | succ k ih =>
    intro e A R c d w hk hk1 hb0 hA hlv
    have hw0 := hb0.size
    have hnE := nodesE_args e
    have hln := nodesL_len e.args
    have hmf : ∀ (fn : Fn) (first cap : Array Value) (w : World), (Instr.makeFunc fn first cap).run Tryz.prog w = .ok (.func fn first cap) w := fun _ _ _ _ => rfl
    by_cases h0 : e.args = []
    · have h0l : e.args.length = 0 := by rw [h0]; rfl
      have h0b : ((e.args.length : Int) == 0) = true := by rw [h0l]; rfl
      have h0n : (e.args.length == 0) = true := by rw [h0l]; rfl
      have hbl : Below w.heap.size w (((w.alloc (.cells #[.int .i64 e.op, .int .i64 e.n, .int .i64 e.m, .int .i64 e.kind, .int .i64 e.lit.k, .int .i64 e.lit.n, .string e.lit.s, .slice none 0 0, .slice none 0 0] 30)).alloc (.cells #[.func (.func gf) #[] #[cp]] 40)).alloc (.cells #[.int .i64 0, .int .i64 0, .int .i64 0, .int .i64 0, .int .i64 0, .int .i64 0, .string ⟨#[]⟩, .slice none 0 0, .slice none 0 0] 30)) := al (al (al (Below.refl _ _) _) _) _
      have HC := Lib.hid (And.intro hbl (And.intro (HL (.mk e.op e.n e.m e.kind e.lit [] []) (((w.alloc (.cells #[.int .i64 e.op, .int .i64 e.n, .int .i64 e.m, .int .i64 e.kind, .int .i64 e.lit.k, .int .i64 e.lit.n, .string e.lit.s, .slice none 0 0, .slice none 0 0] 30)).alloc (.cells #[.func (.func gf) #[] #[cp]] 40)).alloc (.cells #[.int .i64 0, .int .i64 0, .int .i64 0, .int .i64 0, .int .i64 0, .int .i64 0, .string ⟨#[]⟩, .slice none 0 0, .slice none 0 0] 30)) rfl rfl (hlv _ (by rw [lvsE_leaf e h0]; exact List.mem_singleton.2 rfl)) (thn hb0 hbl)) (mapE_leaf f e h0)))
      have H1 : Hid (Blk (((w.alloc (.cells #[.int .i64 e.op, .int .i64 e.n, .int .i64 e.m, .int .i64 e.kind, .int .i64 e.lit.k, .int .i64 e.lit.n, .string e.lit.s, .slice A e.args.length c, .slice none 0 0] 30)).alloc (.cells #[.func (.func gf) #[] #[cp]] 40)).alloc (.cells #[.int .i64 0, .int .i64 0, .int .i64 0, .int .i64 0, .int .i64 0, .int .i64 0, .string ⟨#[]⟩, .slice none 0 0, .slice none 0 0] 30)) w.heap.size 30 #[.int .i64 e.op, .int .i64 e.n, .int .i64 e.m, .int .i64 e.kind, .int .i64 e.lit.k, .int .i64 e.lit.n, .string e.lit.s, .slice A e.args.length c, .slice none 0 0] ∧ Blk (((w.alloc (.cells #[.int .i64 e.op, .int .i64 e.n, .int .i64 e.m, .int .i64 e.kind, .int .i64 e.lit.k, .int .i64 e.lit.n, .string e.lit.s, .slice none 0 0, .slice none 0 0] 30)).alloc (.cells #[.func (.func gf) #[] #[cp]] 40)).alloc (.cells #[.int .i64 0, .int .i64 0, .int .i64 0, .int .i64 0, .int .i64 0, .int .i64 0, .string ⟨#[]⟩, .slice none 0 0, .slice none 0 0] 30)) w.heap.size 30 #[.int .i64 e.op, .int .i64 e.n, .int .i64 e.m, .int .i64 e.kind, .int .i64 e.lit.k, .int .i64 e.lit.n, .string e.lit.s, .slice none 0 0, .slice none 0 0] ∧ Blk (((w.alloc (.cells #[.int .i64 e.op, .int .i64 e.n, .int .i64 e.m, .int .i64 e.kind, .int .i64 e.lit.k, .int .i64 e.lit.n, .string e.lit.s, .slice none 0 0, .slice none 0 0] 30)).alloc (.cells #[.func (.func gf) #[] #[cp]] 40)).alloc (.cells #[.int .i64 0, .int .i64 0, .int .i64 0, .int .i64 0, .int .i64 0, .int .i64 0, .string ⟨#[]⟩, .slice none 0 0, .slice none 0 0] 30)) (w.heap.size + 1) 40 #[.func (.func gf) #[] #[cp]] ∧ Blk (((w.alloc (.cells #[.int .i64 e.op, .int .i64 e.n, .int .i64 e.m, .int .i64 e.kind, .int .i64 e.lit.k, .int .i64 e.lit.n, .string e.lit.s, .slice none 0 0, .slice none 0 0] 30)).alloc (.cells #[.func (.func gf) #[] #[cp]] 40)).alloc (.cells #[.int .i64 0, .int .i64 0, .int .i64 0, .int .i64 0, .int .i64 0, .int .i64 0, .string ⟨#[]⟩, .slice none 0 0, .slice none 0 0] 30)) (w.heap.size + 1 + 1) 30 #[.int .i64 0, .int .i64 0, .int .i64 0, .int .i64 0, .int .i64 0, .int .i64 0, .string ⟨#[]⟩, .slice none 0 0, .slice none 0 0]) := Lib.hid ⟨((Blk.new w _ _).alloc _).alloc _, ((Blk.new w _ _).alloc _).alloc _, (Blk.new' (by simp)).alloc _, Blk.new' (by simp)⟩
      clear ih hA hb0 hbl h0 h0l hlv
      unfold E.val at HC ⊢
      go_enter Tryz.func60, Tryz.ntmps60
      go_upto_region 4 with fail
      go_wp2_with fail
      refine HC.out.2.1.mono ?_
      rintro x w3 ⟨h, hhe, rfl, hb3, hok⟩
      have HB := Lib.hid (H1.out.2.2.2.below hb3 H1.out.2.2.2.lt)
      have HP : Hid (h.e = mapE f e ∧ Below w.heap.size w (set9 w3 (w.heap.size + 1 + 1) (.int .i64 h.e.op) (.int .i64 h.e.n) (.int .i64 h.e.m) (.int .i64 h.e.kind) (.int .i64 h.e.lit.k) (.int .i64 h.e.lit.n) (.string h.e.lit.s) (.slice h.A h.e.args.length h.c) (.slice h.R h.e.rels.length h.d)) ∧ h.ok (set9 w3 (w.heap.size + 1 + 1) (.int .i64 h.e.op) (.int .i64 h.e.n) (.int .i64 h.e.m) (.int .i64 h.e.kind) (.int .i64 h.e.lit.k) (.int .i64 h.e.lit.n) (.string h.e.lit.s) (.slice h.A h.e.args.length h.c) (.slice h.R h.e.rels.length h.d)) (In2 B w.heap.size (set9 w3 (w.heap.size + 1 + 1) (.int .i64 h.e.op) (.int .i64 h.e.n) (.int .i64 h.e.m) (.int .i64 h.e.kind) (.int .i64 h.e.lit.k) (.int .i64 h.e.lit.n) (.string h.e.lit.s) (.slice h.A h.e.args.length h.c) (.slice h.R h.e.rels.length h.d)).heap.size)) := Lib.hid ⟨hhe.trans HC.out.2.2.symm, st9 (thn HC.out.1 hb3) (by omega) _ _ _ _ _ _ _ _ _, hok.kept (fun b hb => set9_far _ _ _ _ _ _ _ _ _ _ _ b (by have := hb.1; simp at this; omega)) fun b hb => ⟨by have := hb.1; simp at this; omega, by rw [set9_size]; exact hb.2⟩⟩
      clear hb3 hok hhe HC H1
      unfold HE.val E.val
      have hq := HB.out
      have hql := hq.lt
      have f0 := hq.frozen 0
      have d0 := hq.cell 0
      have f1 := hq.frozen 1
      have d1 := hq.cell 1
      have f2 := hq.frozen 2
      have d2 := hq.cell 2
      have f3 := hq.frozen 3
      have d3 := hq.cell 3
      have f4 := hq.frozen 4
      have d4 := hq.cell 4
      have f5 := hq.frozen 5
      have d5 := hq.cell 5
      have f6 := hq.frozen 6
      have d6 := hq.cell 6
      have f7 := hq.frozen 7
      have d7 := hq.cell 7
      have f8 := hq.frozen 8
      have d8 := hq.cell 8
      simp only [List.getElem?_toArray, List.getElem?_cons_succ, List.getElem?_cons_zero] at d0 d1 d2 d3 d4 d5 d6 d7 d8
      clear hq
      have HB9 := Lib.hid (HB.out.set9_ (.int .i64 h.e.op) (.int .i64 h.e.n) (.int .i64 h.e.m) (.int .i64 h.e.kind) (.int .i64 h.e.lit.k) (.int .i64 h.e.lit.n) (.string h.e.lit.s) (.slice h.A h.e.args.length h.c) (.slice h.R h.e.rels.length h.d))
      go_wp2_with fail
      have k0 := HB9.out.cell 0
      have k1 := HB9.out.cell 1
      have k2 := HB9.out.cell 2
      have k3 := HB9.out.cell 3
      have k4 := HB9.out.cell 4
      have k5 := HB9.out.cell 5
      have k6 := HB9.out.cell 6
      have k7 := HB9.out.cell 7
      have k8 := HB9.out.cell 8
      simp at k0 k1 k2 k3 k4 k5 k6 k7 k8
      exact bodyPost_ret (v := .agg #[.int .i64 h.e.op, .int .i64 h.e.n, .int .i64 h.e.m, .int .i64 h.e.kind, .int .i64 h.e.lit.k, .int .i64 h.e.lit.n, .string h.e.lit.s, .slice h.A h.e.args.length h.c, .slice h.R h.e.rels.length h.d]) (by simp [results, Tryz.results60, go_sem, k0, k1, k2, k3, k4, k5, k6, k7, k8]) rfl ⟨h, HP.out.1, rfl, HP.out.2.1, HP.out.2.2⟩
    · have h0l : 0 < e.args.length := List.length_pos_iff.2 h0
      have h0b : ((e.args.length : Int) == 0) = false := beq_eq_false_iff_ne.2 (by omega)
      have h0n : (e.args.length == 0) = false := beq_eq_false_iff_ne.2 (by omega)
      have hbl : Below w.heap.size w (((w.alloc (.cells #[.int .i64 e.op, .int .i64 e.n, .int .i64 e.m, .int .i64 e.kind, .int .i64 e.lit.k, .int .i64 e.lit.n, .string e.lit.s, .slice A e.args.length c, .slice none 0 0] 30)).alloc (.cells #[.func (.func gf) #[] #[cp]] 40)).alloc (.cells #[.int .i64 0, .int .i64 0, .int .i64 0, .int .i64 0, .int .i64 0, .int .i64 0, .string ⟨#[]⟩, .slice none 0 0, .slice none 0 0] 30)) := al (al (al (Below.refl _ _) _) _) _
      have H1 : Hid (Blk (((w.alloc (.cells #[.int .i64 e.op, .int .i64 e.n, .int .i64 e.m, .int .i64 e.kind, .int .i64 e.lit.k, .int .i64 e.lit.n, .string e.lit.s, .slice A e.args.length c, .slice none 0 0] 30)).alloc (.cells #[.func (.func gf) #[] #[cp]] 40)).alloc (.cells #[.int .i64 0, .int .i64 0, .int .i64 0, .int .i64 0, .int .i64 0, .int .i64 0, .string ⟨#[]⟩, .slice none 0 0, .slice none 0 0] 30)) w.heap.size 30 #[.int .i64 e.op, .int .i64 e.n, .int .i64 e.m, .int .i64 e.kind, .int .i64 e.lit.k, .int .i64 e.lit.n, .string e.lit.s, .slice A e.args.length c, .slice none 0 0] ∧ Blk (((w.alloc (.cells #[.int .i64 e.op, .int .i64 e.n, .int .i64 e.m, .int .i64 e.kind, .int .i64 e.lit.k, .int .i64 e.lit.n, .string e.lit.s, .slice A e.args.length c, .slice none 0 0] 30)).alloc (.cells #[.func (.func gf) #[] #[cp]] 40)).alloc (.cells #[.int .i64 0, .int .i64 0, .int .i64 0, .int .i64 0, .int .i64 0, .int .i64 0, .string ⟨#[]⟩, .slice none 0 0, .slice none 0 0] 30)) (w.heap.size + 1) 40 #[.func (.func gf) #[] #[cp]] ∧ Blk (((w.alloc (.cells #[.int .i64 e.op, .int .i64 e.n, .int .i64 e.m, .int .i64 e.kind, .int .i64 e.lit.k, .int .i64 e.lit.n, .string e.lit.s, .slice A e.args.length c, .slice none 0 0] 30)).alloc (.cells #[.func (.func gf) #[] #[cp]] 40)).alloc (.cells #[.int .i64 0, .int .i64 0, .int .i64 0, .int .i64 0, .int .i64 0, .int .i64 0, .string ⟨#[]⟩, .slice none 0 0, .slice none 0 0] 30)) (w.heap.size + 1 + 1) 30 #[.int .i64 0, .int .i64 0, .int .i64 0, .int .i64 0, .int .i64 0, .int .i64 0, .string ⟨#[]⟩, .slice none 0 0, .slice none 0 0]) := Lib.hid ⟨((Blk.new w _ _).alloc _).alloc _, (Blk.new' (by simp)).alloc _, Blk.new' (by simp)⟩
      have HC := Lib.hid (And.intro hbl (eachX_any 95 (.pointer (some ⟨w.heap.size + 1, 0, none⟩)) (mapE f) B e.args A c (((w.alloc (.cells #[.int .i64 e.op, .int .i64 e.n, .int .i64 e.m, .int .i64 e.kind, .int .i64 e.lit.k, .int .i64 e.lit.n, .string e.lit.s, .slice A e.args.length c, .slice none 0 0] 30)).alloc (.cells #[.func (.func gf) #[] #[cp]] 40)).alloc (.cells #[.int .i64 0, .int .i64 0, .int .i64 0, .int .i64 0, .int .i64 0, .int .i64 0, .string ⟨#[]⟩, .slice none 0 0, .slice none 0 0] 30)) (by have := hbl.size; omega) (by omega) (hA.below hbl hbl.size) (enters_of Tryz.func95 (by kernel_rfl) rfl) fun x hx A' R' c' d' w1 hb hA' =>
        rb1_any x (mapE f x) A' R' c' d' (w.heap.size + 1) (.func (.func gf) #[] #[cp]) B w1 (by have := hbl.size; have := hb.size; omega) (H1.out.2.1.below hb H1.out.2.1.lt) fun w2 hb2 => ih x A' R' c' d' w2 (by have := nodesL_mem hx; omega) (by omega) (thn hb0 (thn hbl (thn hb hb2))) (hA'.below hb2 hb2.size) (fun y hy => hlv y (lvsE_mem h0 hx hy))))
      have HM := Lib.hid (mapE_node f e h0)
      clear ih hA hb0 hbl h0 hlv
      unfold E.val
      go_enter Tryz.func60, Tryz.ntmps60
      go_wp2_with fail
      refine HC.out.2.mono ?_
      rintro x w3 ⟨g, rfl, hL, hb3⟩
      have HB0 := Lib.hid (H1.out.1.below hb3 H1.out.1.lt)
      have HB2 := Lib.hid (H1.out.2.2.below hb3 H1.out.2.2.lt)
      have HB4 : Hid (Blk (w3.setCell ⟨w.heap.size, 7, none⟩ (.slice (some ⟨g, 0, none⟩) e.args.length e.args.length)) w.heap.size 30 #[.int .i64 e.op, .int .i64 e.n, .int .i64 e.m, .int .i64 e.kind, .int .i64 e.lit.k, .int .i64 e.lit.n, .string e.lit.s, .slice (some ⟨g, 0, none⟩) e.args.length e.args.length, .slice none 0 0] ∧ Blk (w3.setCell ⟨w.heap.size, 7, none⟩ (.slice (some ⟨g, 0, none⟩) e.args.length e.args.length)) (w.heap.size + 1 + 1) 30 #[.int .i64 0, .int .i64 0, .int .i64 0, .int .i64 0, .int .i64 0, .int .i64 0, .string ⟨#[]⟩, .slice none 0 0, .slice none 0 0]) := Lib.hid ⟨HB0.out.set_ 7 _, HB2.out.far (show w.heap.size + 1 + 1 ≠ w.heap.size by omega) _⟩
      have HP : Hid (Below w.heap.size w (set9 (w3.setCell ⟨w.heap.size, 7, none⟩ (.slice (some ⟨g, 0, none⟩) e.args.length e.args.length)) (w.heap.size + 1 + 1) (.int .i64 e.op) (.int .i64 e.n) (.int .i64 e.m) (.int .i64 e.kind) (.int .i64 e.lit.k) (.int .i64 e.lit.n) (.string e.lit.s) (.slice (some ⟨g, 0, none⟩) e.args.length e.args.length) (.slice none 0 0)) ∧ LOk (set9 (w3.setCell ⟨w.heap.size, 7, none⟩ (.slice (some ⟨g, 0, none⟩) e.args.length e.args.length)) (w.heap.size + 1 + 1) (.int .i64 e.op) (.int .i64 e.n) (.int .i64 e.m) (.int .i64 e.kind) (.int .i64 e.lit.k) (.int .i64 e.lit.n) (.string e.lit.s) (.slice (some ⟨g, 0, none⟩) e.args.length e.args.length) (.slice none 0 0)) (In2 B w.heap.size (set9 (w3.setCell ⟨w.heap.size, 7, none⟩ (.slice (some ⟨g, 0, none⟩) e.args.length e.args.length)) (w.heap.size + 1 + 1) (.int .i64 e.op) (.int .i64 e.n) (.int .i64 e.m) (.int .i64 e.kind) (.int .i64 e.lit.k) (.int .i64 e.lit.n) (.string e.lit.s) (.slice (some ⟨g, 0, none⟩) e.args.length e.args.length) (.slice none 0 0)).heap.size) (some ⟨g, 0, none⟩) (e.args.map (mapE f))) := Lib.hid ⟨st9 ((thn HC.out.1 hb3).setCell (p := ⟨w.heap.size, 7, none⟩) (Nat.le_refl _) _) (by omega) _ _ _ _ _ _ _ _ _, hL.kept (fun b hb => (set9_far _ _ _ _ _ _ _ _ _ _ _ b (by have := hb.1; simp at this; omega)).trans (Below.heap_setCell w3 ⟨w.heap.size, 7, none⟩ _ b (show b ≠ w.heap.size by have := hb.1; simp at this; omega))) fun b hb => ⟨by have := hb.1; simp at this; omega, by rw [set9_size]; simpa using hb.2⟩⟩
      clear hb3 hL HC H1
      have f7 := HB0.out.frozen 7
      have d7 := HB0.out.cell 7
      simp only [List.getElem?_toArray, List.getElem?_cons_succ, List.getElem?_cons_zero] at d7
      go_upto_region 6 with fail
      change Code.wp _ _ _ _ (w3.setCell ⟨w.heap.size, 7, none⟩ (.slice (some ⟨g, 0, none⟩) e.args.length e.args.length))
      clear f7 d7
      have hq := HB4.out.1
      have x0 := hq.cell 0
      have x1 := hq.cell 1
      have x2 := hq.cell 2
      have x3 := hq.cell 3
      have x4 := hq.cell 4
      have x5 := hq.cell 5
      have x6 := hq.cell 6
      have x7 := hq.cell 7
      have x8 := hq.cell 8
      simp only [List.getElem?_toArray, List.getElem?_cons_succ, List.getElem?_cons_zero] at x0 x1 x2 x3 x4 x5 x6 x7 x8
      clear hq
      have hq := HB4.out.2
      have hql := hq.lt
      have f0 := hq.frozen 0
      have d0 := hq.cell 0
      have f1 := hq.frozen 1
      have d1 := hq.cell 1
      have f2 := hq.frozen 2
      have d2 := hq.cell 2
      have f3 := hq.frozen 3
      have d3 := hq.cell 3
      have f4 := hq.frozen 4
      have d4 := hq.cell 4
      have f5 := hq.frozen 5
      have d5 := hq.cell 5
      have f6 := hq.frozen 6
      have d6 := hq.cell 6
      have f7 := hq.frozen 7
      have d7 := hq.cell 7
      have f8 := hq.frozen 8
      have d8 := hq.cell 8
      simp only [List.getElem?_toArray, List.getElem?_cons_succ, List.getElem?_cons_zero] at d0 d1 d2 d3 d4 d5 d6 d7 d8
      clear hq
      have HB9 := Lib.hid (HB4.out.2.set9_ (.int .i64 e.op) (.int .i64 e.n) (.int .i64 e.m) (.int .i64 e.kind) (.int .i64 e.lit.k) (.int .i64 e.lit.n) (.string e.lit.s) (.slice (some ⟨g, 0, none⟩) e.args.length e.args.length) (.slice none 0 0))
      go_wp2_with fail
      have k0 := HB9.out.cell 0
      have k1 := HB9.out.cell 1
      have k2 := HB9.out.cell 2
      have k3 := HB9.out.cell 3
      have k4 := HB9.out.cell 4
      have k5 := HB9.out.cell 5
      have k6 := HB9.out.cell 6
      have k7 := HB9.out.cell 7
      have k8 := HB9.out.cell 8
      simp at k0 k1 k2 k3 k4 k5 k6 k7 k8
      exact bodyPost_ret (v := .agg #[.int .i64 e.op, .int .i64 e.n, .int .i64 e.m, .int .i64 e.kind, .int .i64 e.lit.k, .int .i64 e.lit.n, .string e.lit.s, .slice (some ⟨g, 0, none⟩) e.args.length e.args.length, .slice none 0 0]) (by simp [results, Tryz.results60, go_sem, k0, k1, k2, k3, k4, k5, k6, k7, k8]) rfl ⟨⟨mapE f e, some ⟨g, 0, none⟩, e.args.length, none, 0⟩, rfl, by rw [HM.out]; simp [HE.val, E.val, E.op, E.n, E.m, E.kind, E.lit, E.args, E.rels], HP.out.1, by show LOk _ _ _ (mapE f e).args; rw [HM.out]; exact HP.out.2, by show ROk _ _ _ (mapE f e).rels; rw [HM.out]; exact fun h => absurd h (Nat.lt_irrefl 0)⟩
end Go.Proofs.YtdiehgfldndgbaaGreatDoor
