/-
  FROM THE LIST OF WHAT THE VARIABLES HOLD (the rows' 'laid') TO THE CONTRACTS' FACTS.
-/
import Derived.Test.YtphgbfgccagcbaaGreatDoorGA03
import Derived.Deep.RegionHeld3
import Derived.Lib.LaidTab
import Derived.Stop.LaidErr
import Derived.OpenShut
import Derived.ProofKit
namespace Go.Proofs.YtphgbfgccagcbaaGreatDoor
open Go.ChangeShapes Go.WideShapes Go.ChangeAt Go.RowKit

section
variable {H : Type} {enc : TypeId × Value → H} {P : Program} {w : World} {base : Nat} {spare : Nat → Bool} {held : Bool} {fuel : Nat}
/-- a table of rows of strings: what each cell holds -/
theorem strTab {t e u : TypeId} {n m : Nat} {cs : List Value} {rows : List (List (List UInt8))} {p : List MemPlace} (ht : P.underlying t = some (.array n e)) (he : P.underlying e = some (.array m u)) (hu : P.underlying u = some .string) (hcu : P.cellsOf u = 1) (hce : P.cellsOf e = m)
    (h : DataW.trod enc P w base spare held fuel t cs = some (.agg (rows.map fun r => .agg (r.map fun s => .lit (.string s))), p)) {i j : Nat} (hi : i < n) (hj : j < m) :
    ∃ s : ByteArray, cs[i * m + j]? = some (.string s) ∧ (rows[i]?.bind (·[j]?)) = some s.data.toList := by
  obtain ⟨xs, f1, _, hx, _, hxl, hat⟩ := DataW.trod_array ht h
  have h1 := hat i hi
  rw [hce] at h1
  have hxi : xs[i]? = some (xs[i]'(by omega)) := List.getElem?_eq_getElem (by omega)
  rw [hxi] at h1
  simp only [Prod.mk.injEq, DataW.agg.injEq] at hx
  have hd : (rows[i]?).map (fun r => (DataW.agg (r.map fun s => .lit (.string s)) : DataW H)) = some (xs[i]'(by omega)).1 := by
    have := congrArg (·[i]?) hx.1
    simp only [List.getElem?_map, hxi, Option.map_some] at this
    exact this
  obtain ⟨r, hr, hrd⟩ := Option.map_eq_some_iff.1 hd
  obtain ⟨ys, f2, _, hy, _, hyl, hbt⟩ := DataW.trod_array he h1
  have h2 := hbt j hj
  rw [hcu] at h2
  have hyj : ys[j]? = some (ys[j]'(by omega)) := List.getElem?_eq_getElem (by omega)
  rw [hyj] at h2
  obtain ⟨s, hs1, hs2, _⟩ := DataW.trod_string hu h2
  refine ⟨s, ?_, ?_⟩
  · have := congrArg (·[0]?) hs1
    simp only [List.getElem?_take, List.getElem?_drop] at this
    simpa [hj, Nat.mul_one] using this
  · rw [hr]
    have e1 : (xs[i]'(by omega)).1 = .agg (ys.map (·.1)) := by rw [hy]
    rw [e1] at hrd
    injection hrd with hrd
    have := congrArg (·[j]?) hrd
    simp only [List.getElem?_map, hyj, Option.map_some, hs2] at this
    obtain ⟨b, hb1, hb2⟩ := Option.map_eq_some_iff.1 this
    injection hb2 with hb2
    injection hb2 with hb2
    subst hb2
    exact hb1
end

theorem gWords : Tryz.prog.globalNamed "tactician/value.words" = some 4 := by kernel_rfl
theorem tWords : (Tryz.prog.globals[4]?).map (·.type) = some 160 := by kernel_rfl
theorem gB64 : Tryz.prog.globalNamed "math/bits.deBruijn64tab" = some 12 := by kernel_rfl
theorem tTab : (Tryz.prog.globals[10]?).map (·.type) = some 208 := by kernel_rfl
theorem tErrS : (Tryz.prog.globals[8]?).map (·.type) = some 79 := by kernel_rfl
theorem tErrR : (Tryz.prog.globals[9]?).map (·.type) = some 79 := by kernel_rfl
theorem cS : Tryz.prog.cellsOf 9 = 1 := by kernel_rfl
theorem cS2 : Tryz.prog.cellsOf 159 = 2 := by kernel_rfl
theorem cS8 : Tryz.prog.cellsOf 160 = 8 := by kernel_rfl
theorem cU64 : Tryz.prog.cellsOf 123 = 1 := by kernel_rfl
theorem cTab : Tryz.prog.cellsOf 208 = 20 := by kernel_rfl
theorem cErrStr : Tryz.prog.cellsOf 213 = 1 := by kernel_rfl

def wordRows : List (List (List UInt8)) := [[[110, 117, 108, 108], []], [[], []], [[102, 97, 108, 115, 101], [116, 114, 117, 101]], [[], []]]
theorem words_data : (Rows.laid_tactician_value_words : DataW Unit) = .agg (wordRows.map fun r => .agg (r.map fun s => .lit (.string s))) := rfl
theorem ba_eq {s : ByteArray} {l : List UInt8} (h : l = s.data.toList) : s = ⟨l.toArray⟩ := by
  subst h
  obtain ⟨⟨s⟩⟩ := s
  rfl

theorem words_of {rest : List (String × DataW Unit)} {W : World} (h : laidMet Tryz.prog (("tactician/value.words", Rows.laid_tactician_value_words) :: rest) W) :
    (∀ i, W.cell? ⟨4, i, none⟩ = wordCells[i]?) := by
  obtain ⟨ps, ⟨g', t', cs, fuel, p, q, hg', ht', hvar, hd, _, _⟩, _⟩ := h
  obtain rfl := Option.some.inj (gWords.symm.trans hg')
  obtain rfl := Option.some.inj (tWords.symm.trans ht')
  rw [words_data] at hd
  have hl : cs.toList.length = 8 := by
    obtain ⟨_, _, _, _, h8, _⟩ := DataW.trod_array Tryz.underlying160 hd
    rw [h8, cS8]
  have at_ : ∀ i j, i < 4 → j < 2 → ∃ s : ByteArray, cs.toList[i * 2 + j]? = some (.string s) ∧ (wordRows[i]?.bind (·[j]?)) = some s.data.toList := fun i j hi hj =>
    strTab Tryz.underlying160 Tryz.underlying159 Tryz.underlying9 cS cS2 hd hi hj
  intro i
  have hc := World.var?_cell gWords hvar i
  rw [hc]
  match i with
  | 0 => obtain ⟨s, h1, h2⟩ := at_ 0 0 (by decide) (by decide); rw [← Array.getElem?_toList, h1, ba_eq (Option.some.inj h2)]; rfl
  | 1 => obtain ⟨s, h1, h2⟩ := at_ 0 1 (by decide) (by decide); rw [← Array.getElem?_toList, h1, ba_eq (Option.some.inj h2)]; rfl
  | 2 => obtain ⟨s, h1, h2⟩ := at_ 1 0 (by decide) (by decide); rw [← Array.getElem?_toList, h1, ba_eq (Option.some.inj h2)]; rfl
  | 3 => obtain ⟨s, h1, h2⟩ := at_ 1 1 (by decide) (by decide); rw [← Array.getElem?_toList, h1, ba_eq (Option.some.inj h2)]; rfl
  | 4 => obtain ⟨s, h1, h2⟩ := at_ 2 0 (by decide) (by decide); rw [← Array.getElem?_toList, h1, ba_eq (Option.some.inj h2)]; rfl
  | 5 => obtain ⟨s, h1, h2⟩ := at_ 2 1 (by decide) (by decide); rw [← Array.getElem?_toList, h1, ba_eq (Option.some.inj h2)]; rfl
  | 6 => obtain ⟨s, h1, h2⟩ := at_ 3 0 (by decide) (by decide); rw [← Array.getElem?_toList, h1, ba_eq (Option.some.inj h2)]; rfl
  | 7 => obtain ⟨s, h1, h2⟩ := at_ 3 1 (by decide) (by decide); rw [← Array.getElem?_toList, h1, ba_eq (Option.some.inj h2)]; rfl
  | n + 8 => rw [Array.getElem?_eq_none (by rw [← Array.length_toList]; omega), Array.getElem?_eq_none (by simp [wordCells])]

theorem var_lt {P : Program} {W : World} {n : String} {g : Nat} {cs : Array Value} (hg : P.globalNamed n = some g) (h : W.var? P n = some cs) : g < W.heap.size := by
  unfold World.var? at h
  simp only [hg, Option.bind_some] at h
  rcases Nat.lt_or_ge g W.heap.size with h1 | h1
  · exact h1
  · rw [Array.getElem?_eq_none h1] at h; cases h

theorem star : "*" ++ "errors.errorString" = "*errors.errorString" := by decide
theorem err_row (u : TypeId) (h : Tryz.prog.typeName? 3 u = some "*errors.errorString") : u = 211 :=
  typeName_ptr_named (nm := "errors.errorString") (by rw [star]; kernel_rfl) (by kernel_rfl) (by decide) u (by rw [star]; exact h)

theorem G_parts {W : World} {r1 r2 r3 : List (String × DataW Unit)} (h1 : laidMet Tryz.prog (("math/bits.deBruijn64tab", Rows.laid_math_bits_deBruijn64tab) :: r1) W) (h2 : laidMet Tryz.prog (("internal/strconv.uint64pow10", Rows.laid_internal_strconv_uint64pow10) :: r2) W) (h6 : laidMet Tryz.prog (("tactician/value.words", Rows.laid_tactician_value_words) :: r3) W) (hS : W.ShapedOpen Tryz.prog) : G W := by
  refine ⟨Go.Proofs.cell_of_shapedOpen_int (zero := #[.int .i64 0]) (t := 3) hS (of_decide_eq_true (by kernel_rfl)) (by kernel_rfl) rfl (by kernel_rfl) (by kernel_rfl) Tryz.underlying3, Lib.tabIs_of_head gTab tTab Tryz.underlying208 Tryz.underlying123 cU64 cTab h2, words_of h6, ?_⟩
  obtain ⟨ps, ⟨g', t', cs, fuel, p, q, hg', ht', hvar, hd, _, _⟩, _⟩ := h1
  have := var_lt gB64 hvar
  omega
end Go.Proofs.YtphgbfgccagcbaaGreatDoor
