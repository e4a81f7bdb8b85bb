/-
  CONTRACTS of package value: joined, And, Or, Not.
-/
import Derived.Test.YtmhddoikicapjaaGreatDoorVal3
namespace Go.Proofs.YtmhddoikicapjaaGreatDoor
open Go.RowKit

def V.isE (x : Bool) (v : V) : Bool := veq v.k v.n v.s 2 (b2i x) ⟨#[]⟩
def V.isN (v : V) : Bool := v.k == 0
/-- what joined returns of right truths -/
def joinV (x : Bool) (l : List V) : V :=
  if l.any (V.isE x) then ⟨2, b2i x, ⟨#[]⟩⟩ else if l.any V.isN then ⟨0, 0, ⟨#[]⟩⟩ else ⟨2, b2i (!x), ⟨#[]⟩⟩

theorem chkT_zero {l : List V} (h : chkT l = 0) : l.length ≤ 20000 ∧ l.all V.ok = true ∧ l.all V.tr = true := by
  unfold chkT chk at h
  by_cases h1 : 20000 < l.length
  · rw [if_pos h1] at h; simp at h
  · rw [if_neg h1] at h
    by_cases h2 : l.all V.ok = true
    · rw [if_pos h2] at h
      by_cases h3 : l.all V.tr = true
      · exact ⟨by omega, h2, h3⟩
      · simp [h3] at h
    · rw [if_neg h2] at h; simp at h
theorem null_of_ok {v : V} (h : v.ok = true) (hk : v.k = 0) : v = ⟨0, 0, ⟨#[]⟩⟩ := by
  obtain ⟨k, n, ⟨⟨s⟩⟩⟩ := v
  simp only at hk
  subst hk
  simp [V.ok, okVal] at h
  obtain ⟨rfl, rfl⟩ := h
  rfl
theorem joinV_enough {x : Bool} {l : List V} {k : Nat} (hk : k < l.length) (h : V.isE x l[k] = true) : joinV x l = ⟨2, b2i x, ⟨#[]⟩⟩ := by
  unfold joinV
  rw [if_pos]
  exact List.any_eq_true.2 ⟨_, List.getElem_mem hk, h⟩
theorem any_snoc {l : List V} {p : V → Bool} {k : Nat} (hk : k < l.length) : (l.take (k + 1)).any p = ((l.take k).any p || p l[k]) := by
  rw [List.take_succ_eq_append_getElem hk, List.any_append]; simp

/-- what holds at the loop's head in joined: k values are done, none of them is the one that is enough; the three variables' blocks -/
def JInv (x : Bool) (done : List V) (ge gr go : Nat) (w wr : World) (T : TypeId) : Prop :=
  done.any (V.isE x) = false ∧ Below w.heap.size w wr ∧ go < wr.heap.size ∧ Blk wr ge T #[.int .i64 2, .int .i64 (b2i x), .string ⟨#[]⟩] ∧
  (∃ a b c, Blk wr gr T #[a, b, c]) ∧ ∃ o : V, Blk wr go T #[.int .i64 o.k, .int .i64 o.n, .string o.s] ∧ o = if done.any V.isN then ⟨0, 0, ⟨#[]⟩⟩ else ⟨2, b2i (!x), ⟨#[]⟩⟩

set_option maxHeartbeats 400000 in
theorem joined_any (x : Bool) (A : Option Addr) (c : Nat) (l : List V) (w : World) (hr : VReads w w.heap.size A l) (hf : VFit l) (hn : l.length ≤ maxLen) (h0 : chkT l = 0) :
    Calls Tryz.prog 42 #[.agg #[.int .i64 2, .int .i64 (b2i x), .string ⟨#[]⟩], .slice A l.length c] w fun e w' => e = .returned (.tuple #[(joinV x l).val, .int .i64 0]) ∧ Below w.heap.size w w' := by
  have hn' := hn
  unfold maxLen at hn
  have H0 := Lib.hid h0
  have he : (chkT l != 0) = false := by simp [h0]
  have heq := @eqV
  clear h0
  go_enter Tryz.func42, Tryz.ntmps42
  go_wp2_with fail
  refine (checkTruth_any _ _ l _ (hr.below (al (al (Below.refl _ _) _) _) (by simp <;> omega)) hf hn').mono ?_
  rintro e w1 ⟨rfl, hb1⟩
  have B1 := ((Blk.new' (w := w) (t := 35) (cs := #[.int .i64 2, .int .i64 (b2i x), .string ⟨#[]⟩]) rfl).alloc _).below hb1 (by simp <;> omega)
  obtain ⟨⟨k0, k1, k2⟩, f0, f1, f2⟩ := B1.three
  go_wp2_with fail
  refine (opposite_bool _ _ _).mono ?_
  rintro e w2 ⟨rfl, hb2⟩
  go_wp2_with fail
  have hz1 := hb1.size
  simp at hz1
  have hz2 := hb2.size
  have B2 := (B1.below hb2 (by omega)).alloc (.cells #[.int .i64 2, .int .i64 (b2i (b2i x == 0)), .string ⟨#[]⟩] 35)
  have R2 := (((Blk.new' (w := w.alloc (.cells #[.int .i64 2, .int .i64 (b2i x), .string ⟨#[]⟩] 35)) (g := w.heap.size + 1) (t := 35) (cs := #[.int .i64 0, .int .i64 0, .string ⟨#[]⟩]) (by simp)).below hb1 (by simp <;> omega)).below hb2 (by omega)).alloc (.cells #[.int .i64 2, .int .i64 (b2i (b2i x == 0)), .string ⟨#[]⟩] 35)
  have O2 := Blk.new' (w := w2) (g := w2.heap.size) (t := 35) (cs := #[.int .i64 2, .int .i64 (b2i (b2i x == 0)), .string ⟨#[]⟩]) rfl
  have W2 := al (thn (thn (al (al (Below.refl _ w) _) _) hb1) hb2) (.cells #[.int .i64 2, .int .i64 (b2i (b2i x == 0)), .string ⟨#[]⟩] 35)
  clear k0 k1 k2 f0 f1 f2
  go_loopw [20] (fun i wr => ∃ k : Nat, k ≤ l.length ∧ i = .int .i64 k ∧ Hid (JInv x (l.take k) w.heap.size (w.heap.size + 1) w2.heap.size w wr 35)) (fun i _ => l.length - (intOf i).toNat)
  case atStart => exact ⟨0, Nat.zero_le _, rfl, rfl, W2, by simp, B2, ⟨_, _, _, R2⟩, ⟨2, b2i (b2i x == 0), ⟨#[]⟩⟩, O2, by cases x <;> rfl⟩
  case round =>
    obtain ⟨k, hk, rfl, HI⟩ := hrel
    obtain ⟨hno, hb, hgo, BE, ⟨ra, rb, rc, BR⟩, o, BO, ho⟩ := HI.out
    have HNo := Lib.hid hno
    have HO := Lib.hid ho
    clear hno ho HI B2 R2 O2 W2 B1
    have hz := hb.size
    have hge := BE.lt
    have hgr := BR.lt
    obtain ⟨⟨ce0, ce1, ce2⟩, fe0, fe1, fe2⟩ := BE.three
    obtain ⟨⟨co0, co1, co2⟩, fo0, fo1, fo2⟩ := BO.three
    obtain ⟨⟨cr0, cr1, cr2⟩, fr0, fr1, fr2⟩ := BR.three
    have hne1 : w2.heap.size ≠ w.heap.size := by omega
    have hne2 : w2.heap.size ≠ w.heap.size + 1 := by omega
    by_cases hlt : k < l.length
    · obtain ⟨b, p, rfl, hblk, c0, c1, c2⟩ := (hr.below hb hb.size).at_ hlt
      by_cases hE : veq l[k].k l[k].n l[k].s 2 (b2i x) ⟨#[]⟩ = true
      · have HE := Lib.hid (joinV_enough hlt hE)
        go_wp2_with fail
        refine bodyPost_ret (v := .tuple #[.agg #[.int .i64 2, .int .i64 (b2i x), .string ⟨#[]⟩], .int .i64 0]) (by simp [results, Tryz.results42, go_sem, cr0, cr1, cr2, hgr]) rfl ⟨?_, al (st3 hb (by omega) _ _ _) _⟩
        rw [HE.out]; rfl
      · have hE0 : veq l[k].k l[k].n l[k].s 2 (b2i x) ⟨#[]⟩ = false := by simpa using hE
        have HN : Hid ((l.take (k + 1)).any (V.isE x) = false) := by rw [any_snoc hlt, HNo.out]; exact hE0
        clear hE
        by_cases h0 : l[k].k = 0
        · have HV := Lib.hid (null_of_ok (List.all_eq_true.1 (chkT_zero H0.out).2.1 l[k] (List.getElem_mem hlt)) h0)
          have hk0 : (l[k].k == 0) = true := by simp [h0]
          have HA : Hid ((l.take (k + 1)).any V.isN = true) := by rw [any_snoc hlt]; unfold V.isN; rw [hk0, Bool.or_true]; trivial
          clear h0
          go_wp2_with fail
          go_roundw
          case rel => exact ⟨k + 1, by omega, by go_num, HN.out, al (st3 hb (by omega) _ _ _) _, by simp <;> omega, (BE.far3 (by omega) _ _ _).alloc _, ⟨_, _, _, (BR.far3 (by omega) _ _ _).alloc _⟩, l[k], (BO.three_set _ _ _).alloc _, by rw [if_pos HA.out]; exact HV.out⟩
          case measure => simp [intOf]; omega
        · have hk0 : (l[k].k == 0) = false := by simp [h0]
          have HA : Hid ((l.take (k + 1)).any V.isN = (l.take k).any V.isN) := by rw [any_snoc hlt]; unfold V.isN; rw [hk0, Bool.or_false]; trivial
          clear h0
          go_wp2_with fail
          go_roundw
          case rel => exact ⟨k + 1, by omega, by go_num, HN.out, al hb _, by simp <;> omega, BE.alloc _, ⟨_, _, _, BR.alloc _⟩, o, BO.alloc _, by rw [HA.out]; exact HO.out⟩
          case measure => simp [intOf]; omega
    · have HJ : Hid (joinV x l = o) := by
        have h1 := HNo.out
        have h2 := HO.out
        rw [List.take_of_length_le (by omega)] at h1 h2
        unfold joinV
        rw [h1, h2]; rfl
      go_wp2_with fail
      refine bodyPost_ret (v := .tuple #[.agg #[.int .i64 o.k, .int .i64 o.n, .string o.s], .int .i64 0]) (by simp [results, Tryz.results42, go_sem, cr0, cr1, cr2]) rfl ⟨?_, st3 hb (by omega) _ _ _⟩
      rw [HJ.out]; rfl
end Go.Proofs.YtmhddoikicapjaaGreatDoor
