/-
  CONTRACT of the law's CutCols; columns that came in.
-/
import Derived.Test.YtcbcncaoabablaaGreatDoorGA09
import Derived.Test.YtcbcncaoabablaaGreatDoorGA16
import Derived.Test.YtcbcncaoabablaaGreatDoorGA12
import Derived.Deep.DeepCutAuto
namespace Go.Proofs.YtcbcncaoabablaaGreatDoor
open Go.Joins Go.ChangeShapes Go.WideShapes Go.ChangeAt Go.RowKit Go.Deep

theorem half (j : Nat) : ∃ i, j = i * 2 ∨ j = i * 2 + 1 := ⟨j / 2, by omega⟩
theorem KReads.reads {w : World} {B : Nat} {A : Option Addr} {ks : List Co} (h : KReads w B A ks) : Reads w B 2 A ks.length (ccells ks) :=
  ⟨ccells_len ks, fun h0 => by
    obtain ⟨b, o, rfl, hb, hc⟩ := h h0
    refine ⟨_, rfl, hb, fun j u hj => ?_⟩
    have hjl : j < ks.length * 2 := by rw [← ccells_len]; exact (List.getElem?_eq_some_iff.1 hj).1
    obtain ⟨i, hi⟩ := half j
    have hil : i < ks.length := by omega
    have hk := List.getElem?_eq_getElem hil
    have h1 := hc i _ hk
    have h20 := ccells_at ks i 0 _ hk (by decide)
    have h21 := ccells_at ks i 1 _ hk (by decide)
    rw [addN]
    rcases hi with rfl | rfl
    · rw [Nat.add_zero] at h20
      rw [h20] at hj
      simp only [Co.cells, List.getElem?_cons_zero] at hj
      injection hj with hj
      rw [h1.1, hj]
    · rw [h21] at hj
      simp only [Co.cells, List.getElem?_cons_zero, List.getElem?_cons_succ] at hj
      injection hj with hj
      rw [← Nat.add_assoc, h1.2, hj]⟩
theorem KReads.take {w : World} {B : Nat} {A : Option Addr} {ks : List Co} (h : KReads w B A ks) (m : Nat) : KReads w B A (ks.take m) := fun h0 => by
  obtain ⟨b, o, e, hb, hc⟩ := h (by rw [List.length_take] at h0; omega)
  refine ⟨b, o, e, hb, fun i k hk => hc i k ?_⟩
  rw [List.getElem?_take] at hk
  split at hk
  · exact hk
  · cases hk
set_option maxHeartbeats 1000000 in
theorem CutCols_any (A : Option Addr) (c : Nat) (cs : List Co) (w : World) (hk : KReads w w.heap.size A cs) (hc : cs.length ≤ c) (hl : cs.length ≤ maxLen) :
    Calls Tryz.prog 19 #[.slice A cs.length c] w fun e w' => ∃ A' c', e = .returned (.slice A' (cs.take 18).length c') ∧ KReads w' w'.heap.size A' (cs.take 18) ∧ Below w.heap.size w w' := by
  have hl := Nat.le_trans hl (Nat.le_refl _)
  unfold maxLen at hl
  obtain ⟨i0, hi, hz0, hz1, hz2⟩ := info_parts infoCo
  have hmin : min (cs.length : Int) 18 = ((min cs.length 18 : Nat) : Int) := by omega
  have hmc : min cs.length 18 ≤ c := by omega
  have hm18 : min cs.length 18 ≤ 18 := by omega
  have HT : Hid ((cs.take 18).length = min cs.length 18) := Lib.hid (by rw [List.length_take]; omega)
  have HE0 := Lib.hid (own_empty w 50 2)
  have HR := Lib.hid ((hk.below (al (Below.refl w.heap.size w) (.cells #[] 50)) (by simp <;> omega : _ ≤ w.heap.size + 1)).take 18).reads
  rw [HT.out] at HR
  clear hk
  go_enter Tryz.func19, Tryz.ntmps19
  go_wp2_with (at_builtin; refine wpList_append_any _ rfl (.tmp 3) (.tmp 8) 47 rfl w.heap.size 50 i0 (.agg #[.int .i64 0, .bool false]) 2 16 Tryz.underlying47 hi hz0 hz1 hz2 rfl (by decide) (.slice (some ⟨w.heap.size, 0, none⟩) 0 0) 0 [] rfl HE0.out (w.heap.size + 1) A (min cs.length 18) c (ccells (cs.take 18)) rfl HR.out ?c1 ?c2 ?c3 ?c4 ?_)
  case c1 => exact ccells_one _
  case c2 => unfold maxLen; omega
  case c3 => omega
  case c4 => simp <;> omega
  intro v2 w2 ho2 hg2 hv2
  rw [← HT.out] at ho2
  obtain ⟨A2, c2, rfl, hk2⟩ := KReads.own ho2
  have HB : Hid (KReads w2 w2.heap.size A2 (cs.take 18) ∧ Below w.heap.size w w2) := Lib.hid ⟨hk2, (al (Below.refl w.heap.size w) (.cells #[] 50)).grown hg2 (by simp) (fun g hg => by
    have h : some w.heap.size = some g := hg
    injection h with h
    omega)⟩
  clear ho2 hk2 hg2 hv2
  go_wp2_with fail
  go_ret
  exact ⟨A2, c2, rfl, HB.out⟩
section
variable {H : Type} {enc : TypeId × Value → H} {w : World} {base : Nat} {spare : Nat → Bool} {held : Bool}
theorem cC : Tryz.prog.cellsOf 50 = 2 := by kernel_rfl
set_option maxRecDepth 100000 in
/-- columns that came in -/
theorem open_cols {v : Value} {d : DataW H} {p : List MemPlace} {r : Reach} {b0 : Nat} (hv : Value.okWide Tryz.prog w r b0 47 v) (h : DataW.Trod enc Tryz.prog w base spare held 47 v d p) :
    ∃ (A : Option Addr) (c : Nat) (ks : List (Int × Bool)), v = .slice A ks.length c ∧ KReads w w.heap.size A ks ∧ ks.length ≤ maxLen ∧ ks.length ≤ c := by
  obtain ⟨a0, len, cap, rfl⟩ := okWide_slice Tryz.underlying47 hv
  obtain ⟨fuel, hf⟩ := h
  rcases open_slice_fields Tryz.underlying47 Tryz.underlying50 (by kernel_rfl) cC hf with ⟨hcs, _⟩ | ⟨a, len', cap', m, D, Pl, hcs, _, hl, hm, hmm, _, hi⟩
  · simp [Value.cells] at hcs
    obtain ⟨rfl, rfl, rfl⟩ := hcs
    exact ⟨none, 0, [], rfl, (fun h0 => absurd h0 (by simp)), (by simp), (by simp)⟩
  · simp [Value.cells] at hcs
    obtain ⟨rfl, rfl, rfl⟩ := hcs
    have hlm : len ≤ m := by rw [hmm]; split <;> omega
    obtain ⟨l, hll, hlp⟩ := list_of (p := fun i (x : Int × Bool) => w.cell? (a.add (i * 2)) = some (.int .i64 x.1) ∧ w.cell? (a.add (i * 2 + 1)) = some (.bool x.2)) len (fun i hil => by
      obtain ⟨ys, n, _, _, hyl, hfd⟩ := hi i (by omega)
      obtain ⟨u0, y0, c0, _, t0⟩ := hfd 0 _ rfl
      obtain ⟨u1, y1, c1, _, t1⟩ := hfd 1 _ rfl
      obtain ⟨k, e0, _, _⟩ := DataW.trod_int Tryz.underlying23 t0
      obtain ⟨q, e1, _⟩ := DataW.trod_bool Tryz.underlying4 t1
      simp only [List.cons.injEq, and_true] at e0 e1
      subst e0 e1
      exact ⟨(k, q), c0, c1⟩)
    subst hll
    refine ⟨some a, cap, l, rfl, fun h0 => ?_, by omega, hl⟩
    obtain ⟨b, o, sp⟩ := a
    have h00 := (hlp 0 _ (List.getElem?_eq_getElem h0)).1
    have hsp : sp = none := by simpa [Addr.add] using World.cell?_spot h00
    subst hsp
    have hb : b < w.heap.size := by
      have := block_lt_of_cell h00
      simpa [Addr.add] using this
    refine ⟨b, o, rfl, hb, fun i x hx => ?_⟩
    obtain ⟨c0, c1⟩ := hlp i x hx
    simp only [add_plain] at c0 c1
    exact ⟨c0, c1⟩
end
end Go.Proofs.YtcbcncaoabablaaGreatDoor
