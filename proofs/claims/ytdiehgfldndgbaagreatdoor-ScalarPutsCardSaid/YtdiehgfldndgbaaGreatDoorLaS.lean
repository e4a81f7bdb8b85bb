/-
  FROM THE LIST OF WHAT THE VARIABLES HOLD (the rows' 'laid') TO THE FACTS OF package scalar.
-/
import Derived.Test.YtdiehgfldndgbaaGreatDoorLaid
import Derived.Test.YtdiehgfldndgbaaGreatDoorGA07
namespace Go.Proofs.YtdiehgfldndgbaaGreatDoor
open Go.ChangeShapes Go.WideShapes Go.ChangeAt Go.RowKit

/-- what the rows of stage 3 list -/
def laidListS : List (String × DataW Unit) := [("math/bits.deBruijn32tab", Rows.laid_math_bits_deBruijn32tab), ("math/bits.deBruijn64tab", Rows.laid_math_bits_deBruijn64tab), ("internal/strconv.uint64pow10", Rows.laid_internal_strconv_uint64pow10), ("unicode/utf8.acceptRanges", Rows.laid_unicode_utf8_acceptRanges), ("strconv.ErrRange", Rows.laid_strconv_ErrRange), ("strconv.ErrSyntax", Rows.laid_strconv_ErrSyntax), ("tactician/value.words", Rows.laid_tactician_value_words), ("tactician/scalar.shapes", Rows.laid_tactician_scalar_shapes), ("tactician/scalar.kinds", Rows.laid_tactician_scalar_kinds), ("unicode/utf8.first", Rows.laid_unicode_utf8_first)]
theorem gShapes : Tryz.prog.globalNamed "tactician/scalar.shapes" = some 0 := by kernel_rfl
theorem tShapes : (Tryz.prog.globals[0]?).map (·.type) = some 145 := by kernel_rfl
theorem gKinds : Tryz.prog.globalNamed "tactician/scalar.kinds" = some 1 := by kernel_rfl
theorem tKinds : (Tryz.prog.globals[1]?).map (·.type) = some 155 := by kernel_rfl
theorem cShape : Tryz.prog.cellsOf 144 = 5 := by kernel_rfl
theorem cIntS : Tryz.prog.cellsOf 3 = 1 := by kernel_rfl
theorem cKindS : Tryz.prog.cellsOf 25 = 1 := by kernel_rfl
def rowD (r : List UInt8 × Int × Int × Int × Int) : DataW Unit := .agg [.lit (.string r.1), .lit (.int .i64 r.2.1), .lit (.int .i64 r.2.2.1), .lit (.int .i64 r.2.2.2.1), .lit (.int .i64 r.2.2.2.2)]
def shapeRow (m : Nat) : List UInt8 × Int × Int × Int × Int := if m < 4 then ([], 0, 0, 0, 0) else (wordL m, leastM m, mostM m, ofK m, isK m)
theorem shapes_data : (Rows.laid_tactician_scalar_shapes : DataW Unit) = .agg (((List.range 26).map shapeRow).map rowD) := by kernel_rfl
def kindRows : List (List UInt8) := [[], [105, 110, 116], [98, 111, 111, 108], [116, 101, 120, 116]]
theorem kinds_data : (Rows.laid_tactician_scalar_kinds : DataW Unit) = .agg (kindRows.map fun s => .lit (.string s)) := rfl
theorem list5 {α : Type} {l : List α} (h : l.length = 5) : ∃ a b c d e, l = [a, b, c, d, e] := by
  match l, h with
  | [a, b, c, d, e], _ => exact ⟨_, _, _, _, _, rfl⟩
set_option maxRecDepth 100000 in
theorem shapes_of {rest : List (String × DataW Unit)} {W : World} (h : laidMet Tryz.prog (("tactician/scalar.shapes", Rows.laid_tactician_scalar_shapes) :: rest) W) :
    ∀ m : Nat, 4 ≤ m → m ≤ 25 → W.cell? ⟨0, m * 5, none⟩ = some (.string (wordB m)) ∧ W.cell? ⟨0, m * 5 + 1, none⟩ = some (.int .i64 (leastM m)) ∧ W.cell? ⟨0, m * 5 + 2, none⟩ = some (.int .i64 (mostM m)) ∧
      W.cell? ⟨0, m * 5 + 3, none⟩ = some (.int .i64 (ofK m)) ∧ W.cell? ⟨0, m * 5 + 4, none⟩ = some (.int .i64 (isK m)) := by
  obtain ⟨ps, ⟨g', t', cs, fuel, p, q, hg', ht', hvar, hd, _, _⟩, _⟩ := h
  obtain rfl := Option.some.inj (gShapes.symm.trans hg')
  obtain rfl := Option.some.inj (tShapes.symm.trans ht')
  rw [shapes_data] at hd
  obtain ⟨xs, f1, _, hx, hcl, hxl, hat⟩ := DataW.trod_array Tryz.underlying145 hd
  simp only [Prod.mk.injEq, DataW.agg.injEq] at hx
  intro m h4 h25
  have h1 := hat m (by omega)
  rw [cShape] at h1
  have hxm : xs[m]? = some (xs[m]'(by omega)) := List.getElem?_eq_getElem (by omega)
  rw [hxm] at h1
  have hdm : rowD (shapeRow m) = (xs[m]'(by omega)).1 := by
    have := congrArg (·[m]?) hx.1
    simp only [List.getElem?_map, hxm, Option.map_some, List.getElem?_range (show m < 26 by omega)] at this
    exact Option.some.inj this
  obtain ⟨ys, n2, _, hy, hl5, hyl, hf⟩ := DataW.trod_struct Tryz.underlying144 h1
  rw [cShape] at hl5
  have hy5 : ys.length = 5 := hyl
  obtain ⟨c0, c1, c2, c3, c4, hc⟩ := list5 hl5
  rw [hc] at hf
  have t0 := hf 0 _ rfl
  change DataW.trod _ Tryz.prog W _ _ _ n2 9 ((([c0, c1, c2, c3, c4] : List Value).drop 0).take (Tryz.prog.cellsOf 9)) = ys[0]? at t0
  rw [cS, List.getElem?_eq_getElem (by omega)] at t0
  have t1 := hf 1 _ rfl
  change DataW.trod _ Tryz.prog W _ _ _ n2 3 ((([c0, c1, c2, c3, c4] : List Value).drop 1).take (Tryz.prog.cellsOf 3)) = ys[1]? at t1
  rw [cIntS, List.getElem?_eq_getElem (by omega)] at t1
  have t2 := hf 2 _ rfl
  change DataW.trod _ Tryz.prog W _ _ _ n2 3 ((([c0, c1, c2, c3, c4] : List Value).drop 2).take (Tryz.prog.cellsOf 3)) = ys[2]? at t2
  rw [cIntS, List.getElem?_eq_getElem (by omega)] at t2
  have t3 := hf 3 _ rfl
  change DataW.trod _ Tryz.prog W _ _ _ n2 25 ((([c0, c1, c2, c3, c4] : List Value).drop 3).take (Tryz.prog.cellsOf 25)) = ys[3]? at t3
  rw [cKindS, List.getElem?_eq_getElem (by omega)] at t3
  have t4 := hf 4 _ rfl
  change DataW.trod _ Tryz.prog W _ _ _ n2 25 ((([c0, c1, c2, c3, c4] : List Value).drop 4).take (Tryz.prog.cellsOf 25)) = ys[4]? at t4
  rw [cKindS, List.getElem?_eq_getElem (by omega)] at t4
  obtain ⟨s, e0, d0, _⟩ := DataW.trod_string Tryz.underlying9 t0
  obtain ⟨n1, e1, d1, _⟩ := DataW.trod_int Tryz.underlying3 t1
  obtain ⟨n3, e2, d2, _⟩ := DataW.trod_int Tryz.underlying3 t2
  obtain ⟨n4, e3, d3, _⟩ := DataW.trod_int Tryz.underlying25 t3
  obtain ⟨n5, e4, d4, _⟩ := DataW.trod_int Tryz.underlying25 t4
  have hyy : (xs[m]'(by omega)).1 = .agg (ys.map (·.1)) := by rw [hy]
  have hys : ys = [ys[0]'(by omega), ys[1]'(by omega), ys[2]'(by omega), ys[3]'(by omega), ys[4]'(by omega)] := by
    obtain ⟨a, b, c, d, e, hl⟩ := list5 hy5
    subst hl
    rfl
  rw [hyy, hys, List.map_cons, List.map_cons, List.map_cons, List.map_cons, List.map_cons, List.map_nil, d0, d1, d2, d3, d4] at hdm
  unfold rowD shapeRow at hdm
  rw [if_neg (by omega)] at hdm
  simp only [DataW.agg.injEq, List.cons.injEq, DataW.lit.injEq, Lit.string.injEq, Lit.int.injEq, true_and, and_true] at hdm
  obtain ⟨r0, r1, r2, r3, r4⟩ := hdm
  simp only [List.drop_zero, List.take_succ_cons, List.take_zero, List.cons.injEq, and_true, List.drop_succ_cons] at e0 e1 e2 e3 e4
  have hcell : ∀ j, j < 5 → W.cell? ⟨0, m * 5 + j, none⟩ = ([c0, c1, c2, c3, c4] : List Value)[j]? := fun j hj => by
    rw [World.var?_cell gShapes hvar (m * 5 + j), ← Array.getElem?_toList, ← hc, List.getElem?_take, if_pos hj, List.getElem?_drop]
  refine ⟨(hcell 0 (by decide)).trans ?_, (hcell 1 (by decide)).trans ?_, (hcell 2 (by decide)).trans ?_, (hcell 3 (by decide)).trans ?_, (hcell 4 (by decide)).trans ?_⟩
  · show some c0 = _
    rw [e0, ba_eq r0]; rfl
  · show some c1 = _
    rw [e1, r1]
  · show some c2 = _
    rw [e2, r2]
  · show some c3 = _
    rw [e3, r3]
  · show some c4 = _
    rw [e4, r4]
theorem kinds_of {rest : List (String × DataW Unit)} {W : World} (h : laidMet Tryz.prog (("tactician/scalar.kinds", Rows.laid_tactician_scalar_kinds) :: rest) W) :
    ∀ k : Nat, 1 ≤ k → k ≤ 3 → W.cell? ⟨1, k, none⟩ = some (.string (kwB k)) := by
  obtain ⟨ps, ⟨g', t', cs, fuel, p, q, hg', ht', hvar, hd, _, _⟩, _⟩ := h
  obtain rfl := Option.some.inj (gKinds.symm.trans hg')
  obtain rfl := Option.some.inj (tKinds.symm.trans ht')
  rw [kinds_data] at hd
  obtain ⟨xs, f1, _, hx, hcl, hxl, hat⟩ := DataW.trod_array Tryz.underlying155 hd
  simp only [Prod.mk.injEq, DataW.agg.injEq] at hx
  intro k h1 h3
  have hk := hat k (by omega)
  rw [cS] at hk
  have hxm : xs[k]? = some (xs[k]'(by omega)) := List.getElem?_eq_getElem (by omega)
  rw [hxm] at hk
  obtain ⟨s, e0, d0, _⟩ := DataW.trod_string Tryz.underlying9 hk
  have hdm : (kindRows[k]?).map (fun s => (DataW.lit (.string s) : DataW Unit)) = some (xs[k]'(by omega)).1 := by
    have := congrArg (·[k]?) hx.1
    simp only [List.getElem?_map, hxm, Option.map_some] at this
    exact this
  rw [d0] at hdm
  have hc : W.cell? ⟨1, k, none⟩ = some (.string s) := by
    rw [World.var?_cell gKinds hvar k, ← Array.getElem?_toList]
    have := congrArg (·[0]?) e0
    simp only [List.getElem?_take, List.getElem?_drop] at this
    simpa [Nat.mul_one] using this
  have : k = 1 ∨ k = 2 ∨ k = 3 := by omega
  rw [hc]
  rcases this with rfl | rfl | rfl <;> (simp only [kindRows, List.getElem?_cons_zero, List.getElem?_cons_succ, Option.map_some, Option.some.injEq, DataW.lit.injEq, Lit.string.injEq] at hdm; rw [ba_eq hdm]; rfl)
theorem GES_of {W : World} (h : laidMet Tryz.prog laidListS W) (hS : W.ShapedOpen Tryz.prog) : GE W ∧ GS W := by
  have h1 := h.tail
  have h2 := h1.tail
  have h4 := h2.tail.tail
  have h5 := h4.tail
  have h6 := h5.tail
  have h7 := h6.tail
  have h8 := h7.tail
  have hG := G_parts h1 h2 h6 hS
  refine ⟨⟨hG, ?_, ?_⟩, ⟨shapes_of h7, kinds_of h8, by have := hG.big; omega⟩⟩
  · obtain ⟨a, s, hv, _⟩ := laid_sentinel h5 gSyn tErrS Tryz.underlying186 err_row Tryz.underlying308 Tryz.underlying310 rfl rfl Tryz.underlying9 cErrStr cS
    exact ⟨_, _, hv⟩
  · obtain ⟨a, s, hv, _⟩ := laid_sentinel h4 gRng tErrR Tryz.underlying186 err_row Tryz.underlying308 Tryz.underlying310 rfl rfl Tryz.underlying9 cErrStr cS
    exact ⟨_, _, hv⟩
end Go.Proofs.YtdiehgfldndgbaaGreatDoor
