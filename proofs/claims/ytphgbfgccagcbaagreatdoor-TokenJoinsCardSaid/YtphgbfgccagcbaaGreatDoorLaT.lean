/-
  FROM THE LIST OF WHAT THE VARIABLES HOLD (the rows' 'laid') TO THE FACTS OF package token.
-/
import Derived.Test.YtphgbfgccagcbaaGreatDoorLaid
import Derived.Test.YtphgbfgccagcbaaGreatDoorGA06
import Derived.Test.YtphgbfgccagcbaaGreatDoorGA07
namespace Go.Proofs.YtphgbfgccagcbaaGreatDoor
open Go.ChangeShapes Go.WideShapes Go.ChangeAt Go.RowKit

/-- what the rows of stage 8 list -/
def laidListT : List (String × DataW Unit) := [("math/bits.deBruijn32tab", Rows.laid_math_bits_deBruijn32tab), ("math/bits.deBruijn64tab", Rows.laid_math_bits_deBruijn64tab), ("internal/strconv.uint64pow10", Rows.laid_internal_strconv_uint64pow10), ("unicode/utf8.acceptRanges", Rows.laid_unicode_utf8_acceptRanges), ("strconv.ErrRange", Rows.laid_strconv_ErrRange), ("strconv.ErrSyntax", Rows.laid_strconv_ErrSyntax), ("unicode.White_Space", Rows.laid_unicode_White_Space), ("strings.asciiSpace", Rows.laid_strings_asciiSpace), ("tactician/value.words", Rows.laid_tactician_value_words), ("tactician/token.signs", Rows.laid_tactician_token_signs), ("unicode.CaseRanges", Rows.laid_unicode_CaseRanges), ("unicode/utf8.first", Rows.laid_unicode_utf8_first)]
theorem gSigns : Tryz.prog.globalNamed "tactician/token.signs" = some 0 := by kernel_rfl
theorem tSigns : (Tryz.prog.globals[0]?).map (·.type) = some 56 := by kernel_rfl
theorem tSpace : (Tryz.prog.globals[1]?).map (·.type) = some 96 := by kernel_rfl
theorem cU8 : Tryz.prog.cellsOf 5 = 1 := by kernel_rfl
theorem cSpace : Tryz.prog.cellsOf 96 = 256 := by kernel_rfl
theorem cS17 : Tryz.prog.cellsOf 56 = 17 := by kernel_rfl
set_option maxRecDepth 100000 in
theorem space_data : (Rows.laid_strings_asciiSpace : DataW Unit) = Lib.tabData .u8 Lib.asciiSpaceTab := by kernel_rfl
theorem signs_data : (Rows.laid_tactician_token_signs : DataW Unit) = .agg (Tok.signs.map fun s => .lit (.string s)) := rfl
theorem signs_of {rest : List (String × DataW Unit)} {W : World} (h : laidMet Tryz.prog (("tactician/token.signs", Rows.laid_tactician_token_signs) :: rest) W) :
    ∀ k, W.cell? ⟨0, k, none⟩ = signVals[k]? := by
  obtain ⟨ps, ⟨g', t', cs, fuel, p, q, hg', ht', hvar, hd, _, _⟩, _⟩ := h
  obtain rfl := Option.some.inj (gSigns.symm.trans hg')
  obtain rfl := Option.some.inj (tSigns.symm.trans ht')
  rw [signs_data] at hd
  obtain ⟨xs, f1, _, hx, hcl, hxl, hat⟩ := DataW.trod_array Tryz.underlying56 hd
  simp only [Prod.mk.injEq, DataW.agg.injEq] at hx
  rw [cS17] at hcl
  intro k
  rw [World.var?_cell gSigns hvar k, signVals_eq]
  by_cases hk17 : k < 17
  · have hk := hat k hk17
    rw [cS] at hk
    have hxm : xs[k]? = some (xs[k]'(by omega)) := List.getElem?_eq_getElem (by omega)
    rw [hxm] at hk
    obtain ⟨s, e0, d0, _⟩ := DataW.trod_string Tryz.underlying9 hk
    have hdm : (Tok.signs[k]?).map (fun s => (DataW.lit (.string s) : DataW Unit)) = some (xs[k]'(by omega)).1 := by
      have := congrArg (·[k]?) hx.1
      simp only [List.getElem?_map, hxm, Option.map_some] at this
      exact this
    rw [d0] at hdm
    have hc : cs[k]? = some (.string s) := by
      rw [← Array.getElem?_toList]
      have := congrArg (·[0]?) e0
      simp only [List.getElem?_take, List.getElem?_drop] at this
      simpa [Nat.mul_one] using this
    rw [hc, List.getElem?_toArray, List.getElem?_map, List.getElem?_eq_getElem (show k < signsB.length from hk17)]
    obtain ⟨h2, he⟩ := signs_at k hk17
    rw [List.getElem?_eq_getElem h2, he] at hdm
    simp only [Option.map_some, Option.some.injEq, DataW.lit.injEq, Lit.string.injEq] at hdm ⊢
    rw [ba_eq hdm, ba_of]
    rfl
  · have h2 : cs.size ≤ k := by rw [← Array.length_toList]; omega
    have h3 : ((signsB.map Value.string).toArray).size ≤ k := by rw [List.size_toArray, List.length_map]; exact Nat.le_of_not_lt hk17
    rw [Array.getElem?_eq_none h2, Array.getElem?_eq_none h3]
theorem GT_of {W : World} (h : laidMet Tryz.prog laidListT W) (hS : W.ShapedOpen Tryz.prog) : GT W := by
  have h1 := h.tail
  have h2 := h1.tail
  have h4 := h2.tail.tail
  have h5 := h4.tail
  have h7 := h5.tail.tail
  have h8 := h7.tail
  have h9 := h8.tail
  have hG := G_parts h1 h2 h8 hS
  rw [space_data] at h7
  refine ⟨⟨hG, ?_, ?_⟩, signs_of h9, Lib.tabIs_of_head gSpace tSpace Tryz.underlying96 Tryz.underlying5 cU8 cSpace h7⟩
  · obtain ⟨a, s, hv, _⟩ := laid_sentinel h5 gSyn tErrS Tryz.underlying79 err_row Tryz.underlying211 Tryz.underlying213 rfl rfl Tryz.underlying9 cErrStr cS
    exact ⟨_, _, hv⟩
  · obtain ⟨a, s, hv, _⟩ := laid_sentinel h4 gRng tErrR Tryz.underlying79 err_row Tryz.underlying211 Tryz.underlying213 rfl rfl Tryz.underlying9 cErrStr cS
    exact ⟨_, _, hv⟩
end Go.Proofs.YtphgbfgccagcbaaGreatDoor
