/-
  CONTRACT of scalar.each from expressions to values, with a closure that captured two variables.
-/
import Derived.Test.YtdiehgfldndgbaaGreatDoorGA11
import Derived.Test.YtdiehgfldndgbaaGreatDoorGA13
import Derived.Deep.OwnRows
namespace Go.Proofs.YtdiehgfldndgbaaGreatDoor
open Go.RowKit Go.Deep

theorem makeVs (n : Nat) (hn : n ≤ 1000000) (w : World) : ∃ C : Array Value, C.size = n * 3 ∧ (Instr.makeSlice 73 (.int .i64 (n : Int)) (.int .i64 (n : Int))).run Tryz.prog w = .ok (.slice (some ⟨w.heap.size, 0, none⟩) n n) (w.alloc (.cells C 27)) := by
  obtain ⟨i0, hi, hz0, hz1, hz2⟩ := info_parts infoV
  have h := run_make (P := Tryz.prog) (w := w) 73 27 i0 (.agg #[.int .i64 0, .int .i64 0, .string ⟨#[]⟩]) Tryz.underlying73 hi hz0 .i64 .i64 (n : Int) (n : Int) (by omega) (Int.le_refl _) (by rw [hz2]; omega) (by omega)
  rw [hz1] at h
  simp only [Int.toNat_natCast] at h
  exact ⟨_, by simp [madeCells], h⟩
/-- the first values stand in a block -/
def VAt (C : Array Value) (l : List V) : Prop := ∀ (i : Nat) (v : V), l[i]? = some v → C[i * 3]? = some (.int .i64 v.k) ∧ C[i * 3 + 1]? = some (.int .i64 v.n) ∧ C[i * 3 + 2]? = some (.string v.s)
theorem VAt.snoc {C : Array Value} {l : List V} {n : Nat} (h : VAt C l) (v : V) (hC : C.size = n * 3) (hn : l.length < n) : VAt (((C.setIfInBounds (l.length * 3) (.int .i64 v.k)).setIfInBounds (l.length * 3 + 1) (.int .i64 v.n)).setIfInBounds (l.length * 3 + 2) (.string v.s)) (l ++ [v]) := by
  intro i x hx
  rcases Nat.lt_or_ge i l.length with hi | hi
  · rw [List.getElem?_append_left hi] at hx
    have := h i x hx
    simp only [Array.getElem?_setIfInBounds_ne (show l.length * 3 + 2 ≠ i * 3 by omega), Array.getElem?_setIfInBounds_ne (show l.length * 3 + 1 ≠ i * 3 by omega), Array.getElem?_setIfInBounds_ne (show l.length * 3 ≠ i * 3 by omega),
      Array.getElem?_setIfInBounds_ne (show l.length * 3 + 2 ≠ i * 3 + 1 by omega), Array.getElem?_setIfInBounds_ne (show l.length * 3 + 1 ≠ i * 3 + 1 by omega), Array.getElem?_setIfInBounds_ne (show l.length * 3 ≠ i * 3 + 1 by omega),
      Array.getElem?_setIfInBounds_ne (show l.length * 3 + 2 ≠ i * 3 + 2 by omega), Array.getElem?_setIfInBounds_ne (show l.length * 3 + 1 ≠ i * 3 + 2 by omega), Array.getElem?_setIfInBounds_ne (show l.length * 3 ≠ i * 3 + 2 by omega)]
    exact this
  · have he : i = l.length := by
      have := (List.getElem?_eq_some_iff.1 hx).1
      simp at this; omega
    subst he
    have hxe : x = v := by simpa using hx.symm
    subst hxe
    refine ⟨?_, ?_, ?_⟩
    · rw [Array.getElem?_setIfInBounds_ne (by omega), Array.getElem?_setIfInBounds_ne (by omega), Array.getElem?_setIfInBounds_self_of_lt (by omega)]
    · rw [Array.getElem?_setIfInBounds_ne (by omega), Array.getElem?_setIfInBounds_self_of_lt (by simp; omega)]
    · rw [Array.getElem?_setIfInBounds_self_of_lt (by simp; omega)]
theorem VAt.reads {w : World} {g : Nat} {C : Array Value} {l : List V} {T : TypeId} (h : VAt C l) (hB : Blk w g T C) : VReads w w.heap.size (some ⟨g, 0, none⟩) l := fun _ => ⟨g, 0, rfl, hB.lt, fun i v hv => by
  obtain ⟨h0, h1, h2⟩ := h i v hv
  rw [Nat.zero_add]
  exact ⟨(hB.cell _).trans h0, (hB.cell _).trans h1, (hB.cell _).trans h2⟩⟩
set_option maxHeartbeats 4000000 in
set_option maxRecDepth 100000 in
theorem eachV_any (gf : FuncId) (a1 a2 : Value) (f : E → V) (l : List E) (A : Option Addr) (c : Nat) (w : World) (hl : l.length ≤ 1000000) (hA : LOk w (Lo w.heap.size) A l)
    (heg : ∀ args W, (callFunc gf args).run Tryz.prog W = .ok (.enter gf args) W)
    (hcall : ∀ e ∈ l, ∀ (A' R' : Option Addr) (c' d' : Nat) (w1 : World), Below w.heap.size w w1 → LOk w1 (Lo w1.heap.size) A' e.args → Calls Tryz.prog gf #[e.val A' c' R' d', a1, a2] w1 fun x w' => x = .returned (.agg #[.int .i64 (f e).k, .int .i64 (f e).n, .string (f e).s]) ∧ Below w1.heap.size w1 w') :
    Calls Tryz.prog 118 #[.slice A l.length c, .func (.func gf) #[] #[a1, a2]] w fun x w' => ∃ g, x = .returned (.slice (some ⟨g, 0, none⟩) l.length l.length) ∧ VReads w' w'.heap.size (some ⟨g, 0, none⟩) (l.map f) ∧ Below w.heap.size w w' := by
  have HA := Lib.hid (And.intro hA hcall)
  obtain ⟨C0, hC0, hmk⟩ := makeVs l.length hl w
  have HC0 := Lib.hid hC0
  clear hA hcall hC0
  go_enter Tryz.func118, Tryz.ntmps118
  go_wp2_with fail
  go_loopw [13] (fun iv wr => ∃ (j : Nat) (C : Array Value), j ≤ l.length ∧ iv = .int .i64 j ∧ Hid (Below w.heap.size w wr ∧ Blk wr w.heap.size 27 C) ∧ Hid (C.size = l.length * 3 ∧ VAt C ((l.take j).map f))) (fun iv _ => l.length - (intOf iv).toNat)
  case atStart => exact ⟨0, C0, Nat.zero_le _, rfl, ⟨al (Below.refl _ _) _, Blk.new _ _ _⟩, ⟨HC0.out, fun i v h => by simp at h⟩⟩
  case round =>
    obtain ⟨j, C, hj, rfl, HW, HC⟩ := hrel
    by_cases hlt : j < l.length
    · have hlti : (j : Int) < (l.length : Int) := by omega
      obtain ⟨b, o, rfl, hb, he⟩ := (HA.out.1.below HW.out.1 HW.out.1.size).at_ hlt
      obtain ⟨z0, z1, z2, z3, z4, z5, z6, ⟨A1, c1, z7, z8⟩, R1, d1, z9, z10⟩ := EOk.mk_.1 he
      have x0 : wr.cell? ⟨b, o + j * 9, none⟩ = some (.int .i64 l[j].op) := z0
      have x1 : wr.cell? ⟨b, o + j * 9 + 1, none⟩ = some (.int .i64 l[j].n) := z1
      have x2 : wr.cell? ⟨b, o + j * 9 + 2, none⟩ = some (.int .i64 l[j].m) := z2
      have x3 : wr.cell? ⟨b, o + j * 9 + 3, none⟩ = some (.int .i64 l[j].kind) := z3
      have x4 : wr.cell? ⟨b, o + j * 9 + 4, none⟩ = some (.int .i64 l[j].lit.k) := z4
      have x5 : wr.cell? ⟨b, o + j * 9 + 5, none⟩ = some (.int .i64 l[j].lit.n) := z5
      have x6 : wr.cell? ⟨b, o + j * 9 + 6, none⟩ = some (.string l[j].lit.s) := z6
      have x7 : wr.cell? ⟨b, o + j * 9 + 7, none⟩ = some ((.slice A1 l[j].args.length c1)) := z7
      have x8 : wr.cell? ⟨b, o + j * 9 + 8, none⟩ = some ((.slice R1 l[j].rels.length d1)) := z9
      have HK : Hid (∀ ob, Calls Tryz.prog gf #[l[j].val A1 c1 R1 d1, a1, a2] (wr.alloc ob) fun x w' => x = .returned (.agg #[.int .i64 (f l[j]).k, .int .i64 (f l[j]).n, .string (f l[j]).s]) ∧ Below (wr.alloc ob).heap.size (wr.alloc ob) w') := Lib.hid fun ob =>
        HA.out.2 _ (List.getElem_mem hlt) A1 R1 c1 d1 _ (al HW.out.1 _) (z8.below (al (Below.refl _ _) _) (by simp))
      have HTk : Hid ((l.take (j + 1)).map f = (l.take j).map f ++ [f l[j]]) := Lib.hid (by rw [List.take_succ_eq_append_getElem hlt, List.map_append]; rfl)
      have hlj : ((l.take j).map f).length = j := by rw [List.length_map, List.length_take]; omega
      have HLj := Lib.hid hlj
      clear z0 z1 z2 z3 z4 z5 z6 z7 z8 z9 z10 he hlj
      generalize hfe : f l[j] = fv at *
      clear hfe
      generalize l[j] = ei at *
      unfold E.val at HK
      obtain ⟨fk, fn, fs⟩ := fv
      go_wp2_with fail
      refine (HK.out _).mono ?_
      rintro x w3 ⟨rfl, hb3⟩
      have hB3 := (HW.out.2.alloc (.cells #[.int .i64 ei.op, .int .i64 ei.n, .int .i64 ei.m, .int .i64 ei.kind, .int .i64 ei.lit.k, .int .i64 ei.lit.n, .string ei.lit.s, .slice A1 ei.args.length c1, .slice R1 ei.rels.length d1] 30)).below hb3 (by have := HW.out.2.lt; simp; omega)
      have hC1 : j * 3 < C.size := by rw [HC.out.1]; omega
      have hC2 : j * 3 + 1 < C.size := by rw [HC.out.1]; omega
      have hC3 : j * 3 + 2 < C.size := by rw [HC.out.1]; omega
      have k0 := hB3.cell (j * 3)
      have k1 := hB3.cell (j * 3 + 1)
      have k2 := hB3.cell (j * 3 + 2)
      rw [Array.getElem?_eq_getElem hC1] at k0
      rw [Array.getElem?_eq_getElem hC2] at k1
      rw [Array.getElem?_eq_getElem hC3] at k2
      have f0 := hB3.frozen (j * 3)
      have f1 := hB3.frozen (j * 3 + 1)
      have f2 := hB3.frozen (j * 3 + 2)
      have HN : Hid ((Below w.heap.size w (((w3.setCell ⟨w.heap.size, j * 3, none⟩ (.int .i64 fk)).setCell ⟨w.heap.size, j * 3 + 1, none⟩ (.int .i64 fn)).setCell ⟨w.heap.size, j * 3 + 2, none⟩ (.string fs)) ∧ Blk (((w3.setCell ⟨w.heap.size, j * 3, none⟩ (.int .i64 fk)).setCell ⟨w.heap.size, j * 3 + 1, none⟩ (.int .i64 fn)).setCell ⟨w.heap.size, j * 3 + 2, none⟩ (.string fs)) w.heap.size 27 (((C.setIfInBounds (j * 3) (.int .i64 fk)).setIfInBounds (j * 3 + 1) (.int .i64 fn)).setIfInBounds (j * 3 + 2) (.string fs))) ∧ (((C.setIfInBounds (j * 3) (.int .i64 fk)).setIfInBounds (j * 3 + 1) (.int .i64 fn)).setIfInBounds (j * 3 + 2) (.string fs)).size = l.length * 3 ∧ VAt (((C.setIfInBounds (j * 3) (.int .i64 fk)).setIfInBounds (j * 3 + 1) (.int .i64 fn)).setIfInBounds (j * 3 + 2) (.string fs)) ((l.take (j + 1)).map f)) := by
        refine ⟨⟨(((thn (al HW.out.1 _) hb3).setCell (p := ⟨w.heap.size, j * 3, none⟩) (Nat.le_refl _) _).setCell (p := ⟨w.heap.size, j * 3 + 1, none⟩) (Nat.le_refl _) _).setCell (p := ⟨w.heap.size, j * 3 + 2, none⟩) (Nat.le_refl _) _, ((hB3.set_ _ _).set_ _ _).set_ _ _⟩, by simpa using HC.out.1, ?_⟩
        have := HC.out.2.snoc ⟨fk, fn, fs⟩ HC.out.1 (by rw [HLj.out]; exact hlt)
        rw [HLj.out, ← HTk.out] at this
        exact this
      clear hb3 hB3
      go_wp2_with fail
      exact ⟨⟨j + 1, _, by omega, by go_num, HN.out.1, HN.out.2⟩, by simp [intOf]; omega⟩
    · have hlf : decide ((j : Int) < (l.length : Int)) = false := decide_eq_false (by omega)
      have HV : Hid (VAt C (l.map f)) := Lib.hid (by
        have h := HC.out.2
        rwa [List.take_of_length_le (by omega)] at h)
      go_wp2_with fail
      go_ret
      exact ⟨w.heap.size, rfl, HV.out.reads HW.out.2, HW.out.1⟩
end Go.Proofs.YtdiehgfldndgbaaGreatDoor
