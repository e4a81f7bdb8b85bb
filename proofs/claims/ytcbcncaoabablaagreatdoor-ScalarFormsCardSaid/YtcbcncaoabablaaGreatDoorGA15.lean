/-
  Open: THE ARGUMENTS OPENED: a slice of values, a value, a string; the row's end; a world for the witness.
  Wit: A WORLD FOR THE WITNESSES: the settled one, the listed variables holding what their initialisers lay.
-/
import Derived.Test.YtcbcncaoabablaaGreatDoorLaid
import Derived.Deep.Slices
import Derived.Deep.Fields
import Derived.ChangeSame
import Derived.Deep.DeepHandedRow
import Derived.Deep.DeepWitnessRowRef
import Derived.Lib.SmallJoins
import Derived.Carry
import Derived.SevenTiedAt
namespace Go.Proofs.YtcbcncaoabablaaGreatDoor
open Go.Joins Go.ChangeShapes Go.WideShapes Go.ChangeAt Go.RowKit Go.Deep

theorem own : ownKnob Tryz.prog.godebug = none := by kernel_rfl
theorem laidOut : laidOutB Tryz.prog = true := by kernel_rfl
theorem cV : Tryz.prog.cellsOf 25 = 3 := by kernel_rfl

section
variable {H : Type} {enc : TypeId × Value → H} {P : Program}
theorem post_of_below {f : Func} {s : ChangeSpec} {apart fresh handsOn again : Bool} {W W' : World} {args : Array Value} {v : Value} {ds gs : List (DataW H)} {before pa pv : List MemPlace}
    (hW : DataW.Whole enc P f.params.toList s.vars apart W args.toList ds gs before)
    (hres : ∀ (b : Nat) (sp : Nat → Bool) (hd : Bool), DataW.TrodAll enc P W' b sp hd f.resultTypes.toList (v.resultList f.resultTypes.size) (s.fn H (ds ++ gs)).results [])
    (hargs : ∀ sp : Nat → Bool, (∀ p ∈ before, sp p.block = true) → DataW.TrodAll enc P W' 0 sp true f.params.toList args.toList (s.fn H (ds ++ gs)).args pa)
    (hvars : ∀ sp : Nat → Bool, (∀ p ∈ before, sp p.block = true) → DataW.TrodVars enc P W' sp s.vars (s.fn H (ds ++ gs)).vars pv)
    (hps : before = pa ++ pv) (hb : Below W.heap.size W W')
    (hok : ∀ (j : Nat) (t : TypeId) (r : Value), f.resultTypes[j]? = some t → (v.resultList f.resultTypes.size)[j]? = some r → Value.okWide P W' .any 0 t r) :
    s.post enc P f apart fresh handsOn again W args v W' := by
  have hlt : ∀ p ∈ before, p.block < W.heap.size := fun p hp => hW.lt p hp
  have hold : ∀ p ∈ before, (fun b => decide (b < W.heap.size)) p.block = true := fun p hp => by simpa using hlt p hp
  refine ⟨ds, gs, before, [], pa, pv, hW, hres _ _ _, hargs _ hold, hvars _ hold, World.keptBut_mono (fun p hp => ⟨hp, ?_⟩) (hb.frame (· ∈ before)), fun _ => ?_⟩
  · rw [hps, List.mem_append] at hp
    exact Or.inr hp
  · obtain ⟨_, _, _, _, _, hz, hn⟩ := hW
    refine ⟨hok, _, _, ([] ++ pa) ++ pv, ⟨[] ++ pa, pv, trodAll_append (hargs _ (fun _ _ => rfl)) (hres _ _ _), hvars _ (fun _ _ => rfl), rfl, ?_, ?_⟩, ?_⟩
    · intro b off hp
      have hin : MemPlace.cell b off ∈ before := by rw [hps]; simpa using hp
      rw [hb.frozen (hlt _ hin)]
      exact hz b off hin
    · intro ha
      have := hn ha
      rw [hps] at this
      simpa using this
    · intro p hp _
      rw [hps]
      simpa using hp
end

section
variable {H : Type} {enc : TypeId × Value → H} {P : Program} {w : World} {base : Nat} {spare : Nat → Bool} {held : Bool}
theorem open_slice_fields {t e : TypeId} {fs : Array Field} {fuel : Nat} {cs : List Value} {x : DataW H × List MemPlace} (ht : P.underlying t = some (.slice e)) (he : P.underlying e = some (.struct fs))
    (hone : oneCellFields P fs = true) (hC : P.cellsOf e = fs.size) (h : DataW.trod enc P w base spare held fuel t cs = some x) :
    (cs = [.slice none 0 0] ∧ x = (.nil, [])) ∨
    ∃ (a : Addr) (len cap m : Nat) (D : Nat → DataW H) (Pl : Nat → List MemPlace), cs = [.slice (some a) len cap] ∧ base ≤ a.block ∧ len ≤ cap ∧ cap ≤ maxLen ∧ m = (if spare a.block then cap else len) ∧
      x = (.slice ((List.range len).map D) ((List.range (m - len)).map fun j => D (len + j)), MemPlace.row a (m * fs.size) ++ (List.range m).flatMap Pl) ∧
      ∀ i, i < m → ∃ (ys : List (DataW H × List MemPlace)) (n : Nat), D i = .agg (ys.map (·.1)) ∧ Pl i = ys.flatMap (·.2) ∧ ys.length = fs.size ∧
        ∀ (j : Nat) (f : Field), fs[j]? = some f → ∃ (v : Value) (y : DataW H × List MemPlace), w.cell? (a.add (i * fs.size + j)) = some v ∧ ys[j]? = some y ∧ DataW.trod enc P w base spare held n f.type [v] = some y := by
  rcases open_slice ht h with h0 | ⟨a, len, cap, m, n, D, Pl, hcs, hb, hl, hm, hmm, hx, hi⟩
  · exact .inl h0
  · refine .inr ⟨a, len, cap, m, D, Pl, hcs, hb, hl, hm, hmm, by rw [hC] at hx; exact hx, fun i him => ?_⟩
    obtain ⟨cs', hc, ht'⟩ := hi i him
    rw [hC] at hc
    obtain ⟨ys, n', hn', hy, hlen, hyl, hf⟩ := DataW.trod_struct he ht'
    obtain ⟨_, hcl, hat⟩ := World.cells?_some hc
    simp only [Prod.mk.injEq] at hy
    refine ⟨ys, n', hy.1, hy.2, hyl, fun j f hj => ?_⟩
    obtain ⟨ho, hk⟩ := hone_of hone j f hj
    have hjl : j < fs.size := (Array.getElem?_eq_some_iff.1 hj).1
    have hcell := hat j hjl
    have hv : cs'[j]? = some (cs'[j]'(by omega)) := List.getElem?_eq_getElem (by omega)
    have h1 := hf j f hj
    rw [ho, hk] at h1
    have hone' : (cs'.drop j).take 1 = [cs'[j]'(by omega)] := by
      rw [List.drop_eq_getElem_cons (by omega)]
      rfl
    rw [hone'] at h1
    have hys : ys[j]? = some (ys[j]'(by omega)) := List.getElem?_eq_getElem (by omega)
    refine ⟨_, _, ?_, hys, h1.trans hys⟩
    rw [← Go.Deep.add_add, hcell, hv]
end

/-- so many things, each with its property: a list of them -/
theorem list_of {α : Type} {p : Nat → α → Prop} : ∀ n, (∀ i, i < n → ∃ x, p i x) → ∃ l : List α, l.length = n ∧ ∀ i x, l[i]? = some x → p i x
  | 0, _ => ⟨[], rfl, fun i x h => by simp at h⟩
  | n + 1, h => by
    obtain ⟨l, hl, hp⟩ := list_of n (fun i hi => h i (by omega))
    obtain ⟨x, hx⟩ := h n (by omega)
    refine ⟨l ++ [x], by simp [hl], fun i y hy => ?_⟩
    rw [List.getElem?_append] at hy
    split at hy
    · exact hp i y hy
    · have hi : i = n := by
        rcases Nat.lt_trichotomy i n with h1 | h1 | h1
        · omega
        · exact h1
        · rw [List.getElem?_eq_none (by simp; omega)] at hy; cases hy
      subst hi
      simp [hl] at hy
      subst hy
      exact hx

theorem wf_i64O {n : Int} (h : (Lit.int .i64 n).wf = true) : I64 n := by
  simp [Lit.wf, IntKind.min, IntKind.max, IntKind.signed, IntKind.bits] at h
  exact ⟨by omega, by omega⟩

section
variable {H : Type} {enc : TypeId × Value → H} {w : World} {base : Nat} {spare : Nat → Bool} {held : Bool}
/-- three fields, read as data: a value -/
theorem value_of {a b c : Value} {n : Nat} {y0 y1 y2 : DataW H × List MemPlace} (h0 : DataW.trod enc Tryz.prog w base spare held n 23 [a] = some y0) (h1 : DataW.trod enc Tryz.prog w base spare held n 2 [b] = some y1) (h2 : DataW.trod enc Tryz.prog w base spare held n 9 [c] = some y2) :
    ∃ v : V, a = .int .i64 v.k ∧ b = .int .i64 v.n ∧ c = .string v.s ∧ v.s.size ≤ maxLen ∧ I64 v.k ∧ I64 v.n := by
  obtain ⟨k, e0, _, wk⟩ := DataW.trod_int Tryz.underlying23 h0
  obtain ⟨m, e1, _, wm⟩ := DataW.trod_int Tryz.underlying2 h1
  obtain ⟨s, e2, _, ws⟩ := DataW.trod_string Tryz.underlying9 h2
  have ik := wf_i64O wk
  have im := wf_i64O wm
  exact ⟨⟨k, m, s⟩, by simpa using e0, by simpa using e1, by simpa using e2, ws, ik, im⟩

set_option maxRecDepth 100000 in
/-- a value that came in -/
theorem open_value {r : Reach} {b0 : Nat} {v : Value} {d : DataW H} {p : List MemPlace} (hv : Value.okWide Tryz.prog w r b0 25 v) (h : DataW.Trod enc Tryz.prog w base spare held 25 v d p) :
    ∃ x : V, v = .agg #[.int .i64 x.k, .int .i64 x.n, .string x.s] ∧ x.s.size ≤ maxLen ∧ I64 x.k ∧ I64 x.n := by
  obtain ⟨v0, v1, v2, y0, y1, y2, n, rfl, _, _, h0, h1, h2⟩ := open_agg3 Tryz.underlying25 (by kernel_rfl) cV hv h
  obtain ⟨x, rfl, rfl, rfl, hs, hk, hn⟩ := value_of h0 h1 h2
  exact ⟨x, rfl, hs, hk, hn⟩

set_option maxRecDepth 100000 in
/-- a slice of values that came in -/
theorem open_values {v : Value} {d : DataW H} {p : List MemPlace} {r : Reach} {b0 : Nat} (hv : Value.okWide Tryz.prog w r b0 57 v) (h : DataW.Trod enc Tryz.prog w base spare held 57 v d p) :
    ∃ (A : Option Addr) (c : Nat) (l : List V), v = .slice A l.length c ∧ VReads w w.heap.size A l ∧ VFit l ∧ l.length ≤ maxLen ∧ l.length ≤ c ∧ ∀ x ∈ l, I64 x.k ∧ I64 x.n := by
  obtain ⟨a0, len, cap, rfl⟩ := okWide_slice Tryz.underlying57 hv
  obtain ⟨fuel, hf⟩ := h
  rcases open_slice_fields Tryz.underlying57 Tryz.underlying25 (by kernel_rfl) cV hf with ⟨hcs, _⟩ | ⟨a, len', cap', m, D, Pl, hcs, _, hl, hm, hmm, _, hi⟩
  · simp [Value.cells] at hcs
    obtain ⟨rfl, rfl, rfl⟩ := hcs
    exact ⟨none, 0, [], rfl, (fun h0 => absurd h0 (by simp)), (fun x hx => by cases hx), (by simp), (by simp), (fun x hx => by cases hx)⟩
  · simp [Value.cells] at hcs
    obtain ⟨rfl, rfl, rfl⟩ := hcs
    have hlm : len ≤ m := by rw [hmm]; split <;> omega
    obtain ⟨l, hll, hlp⟩ := list_of (p := fun i (x : V) => w.cell? (a.add (i * 3)) = some (.int .i64 x.k) ∧ w.cell? (a.add (i * 3 + 1)) = some (.int .i64 x.n) ∧ w.cell? (a.add (i * 3 + 2)) = some (.string x.s) ∧ x.s.size ≤ maxLen ∧ I64 x.k ∧ I64 x.n) len (fun i hil => by
      obtain ⟨ys, n, _, _, hyl, hfd⟩ := hi i (by omega)
      obtain ⟨u0, y0, c0, _, t0⟩ := hfd 0 _ rfl
      obtain ⟨u1, y1, c1, _, t1⟩ := hfd 1 _ rfl
      obtain ⟨u2, y2, c2, _, t2⟩ := hfd 2 _ rfl
      obtain ⟨x, rfl, rfl, rfl, hs, hk, hn⟩ := value_of t0 t1 t2
      exact ⟨x, c0, c1, c2, hs, hk, hn⟩)
    have hmem : ∀ x ∈ l, x.s.size ≤ maxLen ∧ I64 x.k ∧ I64 x.n := fun x hx => by
      obtain ⟨i, hix⟩ := List.mem_iff_getElem?.1 hx
      exact (hlp i x hix).2.2.2
    subst hll
    refine ⟨some a, cap, l, rfl, fun h0 => ?_, fun x hx => (hmem x hx).1, by omega, hl, fun x hx => (hmem x hx).2⟩
    obtain ⟨b, o, sp⟩ := a
    have h00 := (hlp 0 _ (List.getElem?_eq_getElem h0)).1
    have hsp : sp = none := by simpa [Addr.add] using World.cell?_spot h00
    subst hsp
    have hb : b < w.heap.size := by
      have := block_lt_of_cell h00
      simpa [Addr.add] using this
    refine ⟨b, o, rfl, hb, fun i x hx => ?_⟩
    obtain ⟨c0, c1, c2, _⟩ := hlp i x hx
    simp only [add_plain] at c0 c1 c2
    exact ⟨c0, c1, c2⟩
end
end Go.Proofs.YtcbcncaoabablaaGreatDoor
namespace Go.Proofs.YtcbcncaoabablaaGreatDoor
open Go.Joins Go.ChangeShapes Go.WideShapes Go.ChangeAt Go.RowKit Go.Deep

theorem rdV : Tryz.prog.readableRec 25 = true := by kernel_rfl
theorem rdVs : Tryz.prog.readableRec 57 = true := by kernel_rfl
theorem rdB : Tryz.prog.readableRec 4 = true := by kernel_rfl
theorem ltV : 25 < Tryz.prog.types.size := of_decide_eq_true (by kernel_rfl)
theorem ltVs : 57 < Tryz.prog.types.size := of_decide_eq_true (by kernel_rfl)
theorem ltB : 4 < Tryz.prog.types.size := of_decide_eq_true (by kernel_rfl)
/-- an argument reads as before, where old memory stands -/
theorem stays {H : Type} {enc : TypeId × Value → H} {t : TypeId} (hr : Tryz.prog.readableRec t = true) (hrow : t < Tryz.prog.types.size) {W W' : World} {sp : Nat → Bool} {v : Value} {d : DataW H} {ps : List MemPlace}
    (h : DataW.Trod enc Tryz.prog W 0 (fun _ => true) true t v d ps) (hb : Below W.heap.size W W') (hlt : ∀ p ∈ ps, p.block < W.heap.size) (hs : ∀ p ∈ ps, sp p.block = true) : DataW.Trod enc Tryz.prog W' 0 sp true t v d ps :=
  WideElems.Trod_stays laidOut hr hrow h (fun p hp => hb.same (hlt p hp)) hs

def flat1 : DataW Unit → List Value
  | .lit (.int k z) => [.int k z]
  | .lit (.string bs) => [.string ⟨bs.toArray⟩]
  | _ => []
def flat2 : DataW Unit → List Value
  | .agg l => l.flatMap flat1
  | d => flat1 d
def flat3 : DataW Unit → List Value
  | .agg l => l.flatMap flat2
  | d => flat2 d
abbrev synS : ByteArray := ⟨#[105, 110, 118, 97, 108, 105, 100, 32, 115, 121, 110, 116, 97, 120]⟩
abbrev rngS : ByteArray := ⟨#[118, 97, 108, 117, 101, 32, 111, 117, 116, 32, 111, 102, 32, 114, 97, 110, 103, 101]⟩
def setAt (cs : Array Value) : Obj → Obj
  | .cells _ t frozen => .cells cs t frozen
  | o => o
noncomputable def low : Nat := (World.holding Tryz.prog default ⟨#[], #[], []⟩).heap.size
noncomputable def laidWorld (os : Os) : World :=
  let w0 := World.holding Tryz.prog os ⟨#[.cells #[.string synS] 279, .cells #[.string rngS] 279], #[], []⟩
  { w0 with heap := (((((((w0.heap.modify 9 (setAt (flat3 Rows.laid_math_bits_deBruijn32tab).toArray)).modify 10 (setAt (flat3 Rows.laid_math_bits_deBruijn64tab).toArray)).modify 3 (setAt (flat3 Rows.laid_internal_strconv_uint64pow10).toArray)).modify 6 (setAt (flat3 Rows.laid_unicode_utf8_acceptRanges).toArray)).modify 7 (setAt #[.iface 277 (.pointer (some ⟨low, 0, none⟩))])).modify 8 (setAt #[.iface 277 (.pointer (some ⟨low + 1, 0, none⟩))])).modify 2 (setAt (flat3 Rows.laid_tactician_value_words).toArray)).modify 5 (setAt (flat3 Rows.laid_unicode_utf8_first).toArray) }
theorem laid_met (os : Os) (args : Array Value) : laidMet Tryz.prog laidList ((laidWorld os).forCall (fun _ _ => 0) ⟨#[], args, []⟩).memory :=
  laidMet_of_run' 8 (by kernel_rfl) (by kernel_rfl)
theorem laid_metE (os : Os) (args : Array Value) : laidMet Tryz.prog laidListE ((laidWorld os).forCall (fun _ _ => 0) ⟨#[], args, []⟩).memory :=
  laidMet_of_run' 8 (by kernel_rfl) (by kernel_rfl)
end Go.Proofs.YtcbcncaoabablaaGreatDoor
