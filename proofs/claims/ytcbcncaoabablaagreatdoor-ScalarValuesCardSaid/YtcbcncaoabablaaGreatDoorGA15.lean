/-
  Reg: A REGION THAT DRAWS ITS ORDER AND CALLS WHAT MAKES MEMORY: the class of worlds 'old memory stands', as a type, so that the walk sees through it.
  Uni: CONTRACTS put together: And, Or, Not whatever the arguments; the reference's Not; value.Check; '!=' of two values.
  RfJ: CONTRACTS of the reference's some, And, Or.
-/
import Derived.Test.YtcbcncaoabablaaGreatDoorGA12
import Derived.Test.YtcbcncaoabablaaGreatDoorAft
import Derived.Deep.DeepCutAuto
import Derived.Test.YtcbcncaoabablaaGreatDoorGA03
namespace Go.Proofs.YtcbcncaoabablaaGreatDoor
open Go.RowKit

theorem C3.aft {W : World} {g : Nat} {a b : Int} {s : ByteArray} (h : C3 W g a b s) :
    (∀ x : Aft W, x.w.cell? ⟨g, 0, none⟩ = some (.int .i64 a)) ∧ (∀ x : Aft W, x.w.cell? ⟨g, 1, none⟩ = some (.int .i64 b)) ∧ (∀ x : Aft W, x.w.cell? ⟨g, 2, none⟩ = some (.string s)) :=
  ⟨fun x => (h.thn x.h).2.1, fun x => (h.thn x.h).2.2.1, fun x => (h.thn x.h).2.2.2⟩
end Go.Proofs.YtcbcncaoabablaaGreatDoor
namespace Go.Proofs.YtcbcncaoabablaaGreatDoor
open Go.RowKit

/-- what And (x false), Or (x true) return -/
def resJ (x : Bool) (l : List V) : V := if chkT l = 0 then joinV x l else zV
/-- what Not returns -/
def resN (v : V) : V := if chkT [v] = 0 then notV v else zV

theorem And_any (A : Option Addr) (c : Nat) (l : List V) (w : World) (hr : VReads w w.heap.size A l) (hf : VFit l) (hn : l.length ≤ maxLen) :
    Calls Tryz.prog 157 #[.slice A l.length c] w fun e w' => e = .returned (.tuple #[.agg #[.int .i64 (resJ false l).k, .int .i64 (resJ false l).n, .string (resJ false l).s], .int .i64 (chkT l)]) ∧ Below w.heap.size w w' := by
  by_cases h : chkT l = 0
  · have e1 : resJ false l = joinV false l := if_pos h
    rw [e1, h]
    exact And_ok A c l w hr hf hn h
  · have e1 : resJ false l = zV := if_neg h
    rw [e1]
    exact And_err A c l w hr hf hn h
theorem Or_any (A : Option Addr) (c : Nat) (l : List V) (w : World) (hr : VReads w w.heap.size A l) (hf : VFit l) (hn : l.length ≤ maxLen) :
    Calls Tryz.prog 158 #[.slice A l.length c] w fun e w' => e = .returned (.tuple #[.agg #[.int .i64 (resJ true l).k, .int .i64 (resJ true l).n, .string (resJ true l).s], .int .i64 (chkT l)]) ∧ Below w.heap.size w w' := by
  by_cases h : chkT l = 0
  · have e1 : resJ true l = joinV true l := if_pos h
    rw [e1, h]
    exact Or_ok A c l w hr hf hn h
  · have e1 : resJ true l = zV := if_neg h
    rw [e1]
    exact Or_err A c l w hr hf hn h
theorem tr_cases {k n : Int} {s : ByteArray} (h : chkT [⟨k, n, s⟩] = 0) : k = 0 ∨ k = 2 := by
  have := (chkT_zero h).2.2
  simp [V.tr] at this
  omega
theorem rNot_any (k n : Int) (s : ByteArray) (w : World) (h : chkT [⟨k, n, s⟩] = 0) :
    Calls Tryz.prog 94 #[.agg #[.int .i64 k, .int .i64 n, .string s]] w fun e w' => e = .returned (.agg #[.int .i64 (resN ⟨k, n, s⟩).k, .int .i64 (resN ⟨k, n, s⟩).n, .string (resN ⟨k, n, s⟩).s]) ∧ Below w.heap.size w w' := by
  have e1 : resN ⟨k, n, s⟩ = notV ⟨k, n, s⟩ := if_pos h
  rw [e1]
  rcases tr_cases h with rfl | rfl
  · exact rNot_null n s w
  · exact rNot_bool n s w

/-- where the values are right truths, the reference's And and Or return what joined does -/
theorem ref_join (x : Bool) {l : List V} (h : chkT l = 0) : refJ x l = resJ x l := by
  have e1 : resJ x l = joinV x l := if_pos h
  rw [e1]
  have hok := (chkT_zero h).2.1
  unfold refJ joinV
  have e2 : someV l 2 (b2i x) ⟨#[]⟩ = l.any (V.isE x) := rfl
  have e3 : someV l 0 0 ⟨#[]⟩ = l.any V.isN := by
    unfold someV
    rw [Bool.eq_iff_iff, List.any_eq_true, List.any_eq_true]
    constructor
    · rintro ⟨v, hv, he⟩
      refine ⟨v, hv, ?_⟩
      have := veq_iff.1 he
      unfold V.isN
      have hk : v.k = 0 := by
        have := congrArg V.k this
        exact this
      simp [hk]
    · rintro ⟨v, hv, he⟩
      refine ⟨v, hv, ?_⟩
      unfold V.isN at he
      have hk : v.k = 0 := by simpa using he
      have := null_of_ok (List.all_eq_true.1 hok v hv) hk
      rw [this]
      exact veq_self _ _ _
  rw [e2, e3]

end Go.Proofs.YtcbcncaoabablaaGreatDoor
namespace Go.Proofs.YtcbcncaoabablaaGreatDoor
open Go.RowKit

set_option maxHeartbeats 400000 in
theorem some_any (A : Option Addr) (c : Nat) (l : List V) (a b : Int) (s : ByteArray) (w : World) (hr : VReads w w.heap.size A l) (hn : l.length ≤ maxLen) :
    Calls Tryz.prog 165 #[.slice A l.length c, .agg #[.int .i64 a, .int .i64 b, .string s]] w fun e w' => e = .returned (.bool (someV l a b s)) ∧ Below w.heap.size w w' := by
  unfold maxLen at hn
  have heq := @eqV
  go_enter Tryz.func165, Tryz.ntmps165
  go_wp2_with fail
  go_loopw [5] (fun i wr => ∃ k : Nat, k ≤ l.length ∧ i = .int .i64 k ∧ Hid (someV (l.take k) a b s = false) ∧ Hid (Below w.heap.size w wr) ∧ Blk wr w.heap.size 25 #[.int .i64 a, .int .i64 b, .string s]) (fun i _ => l.length - (intOf i).toNat)
  case atStart => exact ⟨0, Nat.zero_le _, rfl, rfl, al (Below.refl _ _) _, Blk.new' rfl⟩
  case round =>
    obtain ⟨k, hk, rfl, hno, HB, BV⟩ := hrel
    obtain ⟨⟨e0, e1, e2⟩, ee⟩ := BV.three
    clear ee
    by_cases hlt : k < l.length
    · obtain ⟨b', o, rfl, hblk, c0, c1, c2⟩ := (hr.below HB.out HB.out.size).at_ hlt
      have hlti : (k : Int) < (l.length : Int) := by omega
      have hk0 : (0 : Int) ≤ (k : Int) := by omega
      by_cases hE : veq l[k].k l[k].n l[k].s a b s = true
      · have HE : Hid (someV l a b s = true) := List.any_eq_true.2 ⟨_, List.getElem_mem hlt, hE⟩
        go_wp2_with fail
        go_quiet (fail)
        go_wp2_with fail
        go_ret
        exact ⟨ret_bool HE.out.symm, below_drewN HB.out _⟩
      · have hE0 : veq l[k].k l[k].n l[k].s a b s = false := by simpa using hE
        have HN : Hid (someV (l.take (k + 1)) a b s = false) := by
          have h1 := hno.out
          unfold someV at h1 ⊢
          rw [any_snoc hlt, h1, hE0]; trivial
        clear hE
        go_wp2_with fail
        go_quiet (fail)
        go_wp2_with fail
        go_roundw
        case rel => exact ⟨k + 1, by omega, by go_num, HN, below_drewN HB.out _, BV.drewN _⟩
        case measure => simp [intOf]; omega
    · have HE : Hid (someV l a b s = false) := by
        have h1 := hno.out
        rw [List.take_of_length_le (by omega)] at h1
        exact h1
      go_wp2_with fail
      go_ret
      exact ⟨ret_bool HE.out.symm, HB.out⟩
set_option maxHeartbeats 400000 in
theorem rAnd_any (A : Option Addr) (c : Nat) (l : List V) (w : World) (hr : VReads w w.heap.size A l) (hn : l.length ≤ maxLen) :
    Calls Tryz.prog 92 #[.slice A l.length c] w fun e w' => e = .returned (.agg #[.int .i64 (refJ false l).k, .int .i64 (refJ false l).n, .string (refJ false l).s]) ∧ Below w.heap.size w w' := by
  go_enter Tryz.func92, Tryz.ntmps92
  go_wp2_with fail
  refine (rBool_any _ _).mono ?_
  rintro e w1 ⟨rfl, hb1⟩
  have W1 := thn (al (Below.refl _ w) _) hb1
  have R1 := (Blk.new' (w := w) (g := w.heap.size) (t := 25) (cs := #[.int .i64 0, .int .i64 0, .string ⟨#[]⟩]) rfl).below hb1 (by simp)
  clear hb1
  go_wp2_with fail
  refine (some_any _ _ l _ _ _ _ (hr.below W1 W1.size) hn).mono ?_
  rintro e w2 ⟨rfl, hb2⟩
  have W2 := thn W1 hb2
  have R2 := R1.below hb2 R1.lt
  clear hb2 R1 W1
  by_cases h1 : someV l 2 (b2i false) ⟨#[]⟩ = true
  · have HR : Hid (refJ false l = ⟨2, b2i false, ⟨#[]⟩⟩) := if_pos h1
    rw [h1]
    clear h1
    go_wp2_with fail
    refine (rBool_any _ _).mono ?_
    rintro e w3 ⟨rfl, hb3⟩
    have W3 := thn W2 hb3
    have R3 := R2.below hb3 R2.lt
    obtain ⟨⟨k0, k1, k2⟩, f0, f1, f2⟩ := R3.three
    go_wp2_with fail
    refine bodyPost_ret (v := .agg #[.int .i64 2, .int .i64 (b2i false), .string ⟨#[]⟩]) (by simp [results, Tryz.results92, go_sem, k0, k1, k2]) rfl ⟨?_, st3 W3 (Nat.le_refl _) _ _ _⟩
    rw [HR.out]
  · have h1' : someV l 2 (b2i false) ⟨#[]⟩ = false := by simpa using h1
    rw [h1']
    go_wp2_with fail
    refine (rNull_any _).mono ?_
    rintro e w3 ⟨rfl, hb3⟩
    have W3 := thn W2 hb3
    have R3 := R2.below hb3 R2.lt
    clear hb3 R2 W2
    go_wp2_with fail
    refine (some_any _ _ l _ _ _ _ (hr.below W3 W3.size) hn).mono ?_
    rintro e w4 ⟨rfl, hb4⟩
    have W4 := thn W3 hb4
    have R4 := R3.below hb4 R3.lt
    clear hb4 R3 W3
    by_cases h2 : someV l 0 0 ⟨#[]⟩ = true
    · have HR : Hid (refJ false l = ⟨0, 0, ⟨#[]⟩⟩) := (if_neg h1).trans (if_pos h2)
      rw [h2]
      clear h1 h1' h2
      go_wp2_with fail
      refine (rNull_any _).mono ?_
      rintro e w5 ⟨rfl, hb5⟩
      have W5 := thn W4 hb5
      have R5 := R4.below hb5 R4.lt
      obtain ⟨⟨k0, k1, k2⟩, f0, f1, f2⟩ := R5.three
      go_wp2_with fail
      refine bodyPost_ret (v := .agg #[.int .i64 0, .int .i64 0, .string ⟨#[]⟩]) (by simp [results, Tryz.results92, go_sem, k0, k1, k2]) rfl ⟨?_, st3 W5 (Nat.le_refl _) _ _ _⟩
      rw [HR.out]
    · have HR : Hid (refJ false l = ⟨2, b2i (!false), ⟨#[]⟩⟩) := (if_neg h1).trans (if_neg h2)
      have h2' : someV l 0 0 ⟨#[]⟩ = false := by simpa using h2
      rw [h2']
      clear h1 h1' h2 h2'
      go_wp2_with fail
      refine (rBool_any _ _).mono ?_
      rintro e w5 ⟨rfl, hb5⟩
      have W5 := thn W4 hb5
      have R5 := R4.below hb5 R4.lt
      obtain ⟨⟨k0, k1, k2⟩, f0, f1, f2⟩ := R5.three
      go_wp2_with fail
      refine bodyPost_ret (v := .agg #[.int .i64 2, .int .i64 (b2i (!false)), .string ⟨#[]⟩]) (by simp [results, Tryz.results92, go_sem, k0, k1, k2]) rfl ⟨?_, st3 W5 (Nat.le_refl _) _ _ _⟩
      rw [HR.out]

set_option maxHeartbeats 400000 in
theorem rOr_any (A : Option Addr) (c : Nat) (l : List V) (w : World) (hr : VReads w w.heap.size A l) (hn : l.length ≤ maxLen) :
    Calls Tryz.prog 93 #[.slice A l.length c] w fun e w' => e = .returned (.agg #[.int .i64 (refJ true l).k, .int .i64 (refJ true l).n, .string (refJ true l).s]) ∧ Below w.heap.size w w' := by
  go_enter Tryz.func93, Tryz.ntmps93
  go_wp2_with fail
  refine (rBool_any _ _).mono ?_
  rintro e w1 ⟨rfl, hb1⟩
  have W1 := thn (al (Below.refl _ w) _) hb1
  have R1 := (Blk.new' (w := w) (g := w.heap.size) (t := 25) (cs := #[.int .i64 0, .int .i64 0, .string ⟨#[]⟩]) rfl).below hb1 (by simp)
  clear hb1
  go_wp2_with fail
  refine (some_any _ _ l _ _ _ _ (hr.below W1 W1.size) hn).mono ?_
  rintro e w2 ⟨rfl, hb2⟩
  have W2 := thn W1 hb2
  have R2 := R1.below hb2 R1.lt
  clear hb2 R1 W1
  by_cases h1 : someV l 2 (b2i true) ⟨#[]⟩ = true
  · have HR : Hid (refJ true l = ⟨2, b2i true, ⟨#[]⟩⟩) := if_pos h1
    rw [h1]
    clear h1
    go_wp2_with fail
    refine (rBool_any _ _).mono ?_
    rintro e w3 ⟨rfl, hb3⟩
    have W3 := thn W2 hb3
    have R3 := R2.below hb3 R2.lt
    obtain ⟨⟨k0, k1, k2⟩, f0, f1, f2⟩ := R3.three
    go_wp2_with fail
    refine bodyPost_ret (v := .agg #[.int .i64 2, .int .i64 (b2i true), .string ⟨#[]⟩]) (by simp [results, Tryz.results93, go_sem, k0, k1, k2]) rfl ⟨?_, st3 W3 (Nat.le_refl _) _ _ _⟩
    rw [HR.out]
  · have h1' : someV l 2 (b2i true) ⟨#[]⟩ = false := by simpa using h1
    rw [h1']
    go_wp2_with fail
    refine (rNull_any _).mono ?_
    rintro e w3 ⟨rfl, hb3⟩
    have W3 := thn W2 hb3
    have R3 := R2.below hb3 R2.lt
    clear hb3 R2 W2
    go_wp2_with fail
    refine (some_any _ _ l _ _ _ _ (hr.below W3 W3.size) hn).mono ?_
    rintro e w4 ⟨rfl, hb4⟩
    have W4 := thn W3 hb4
    have R4 := R3.below hb4 R3.lt
    clear hb4 R3 W3
    by_cases h2 : someV l 0 0 ⟨#[]⟩ = true
    · have HR : Hid (refJ true l = ⟨0, 0, ⟨#[]⟩⟩) := (if_neg h1).trans (if_pos h2)
      rw [h2]
      clear h1 h1' h2
      go_wp2_with fail
      refine (rNull_any _).mono ?_
      rintro e w5 ⟨rfl, hb5⟩
      have W5 := thn W4 hb5
      have R5 := R4.below hb5 R4.lt
      obtain ⟨⟨k0, k1, k2⟩, f0, f1, f2⟩ := R5.three
      go_wp2_with fail
      refine bodyPost_ret (v := .agg #[.int .i64 0, .int .i64 0, .string ⟨#[]⟩]) (by simp [results, Tryz.results93, go_sem, k0, k1, k2]) rfl ⟨?_, st3 W5 (Nat.le_refl _) _ _ _⟩
      rw [HR.out]
    · have HR : Hid (refJ true l = ⟨2, b2i (!true), ⟨#[]⟩⟩) := (if_neg h1).trans (if_neg h2)
      have h2' : someV l 0 0 ⟨#[]⟩ = false := by simpa using h2
      rw [h2']
      clear h1 h1' h2 h2'
      go_wp2_with fail
      refine (rBool_any _ _).mono ?_
      rintro e w5 ⟨rfl, hb5⟩
      have W5 := thn W4 hb5
      have R5 := R4.below hb5 R4.lt
      obtain ⟨⟨k0, k1, k2⟩, f0, f1, f2⟩ := R5.three
      go_wp2_with fail
      refine bodyPost_ret (v := .agg #[.int .i64 2, .int .i64 (b2i (!true)), .string ⟨#[]⟩]) (by simp [results, Tryz.results93, go_sem, k0, k1, k2]) rfl ⟨?_, st3 W5 (Nat.le_refl _) _ _ _⟩
      rw [HR.out]
theorem rAnd_res (A : Option Addr) (c : Nat) (l : List V) (w : World) (hr : VReads w w.heap.size A l) (hn : l.length ≤ maxLen) (h0 : chkT l = 0) :
    Calls Tryz.prog 92 #[.slice A l.length c] w fun e w' => e = .returned (.agg #[.int .i64 (resJ false l).k, .int .i64 (resJ false l).n, .string (resJ false l).s]) ∧ Below w.heap.size w w' := by
  rw [← ref_join false h0]; exact rAnd_any A c l w hr hn
theorem rOr_res (A : Option Addr) (c : Nat) (l : List V) (w : World) (hr : VReads w w.heap.size A l) (hn : l.length ≤ maxLen) (h0 : chkT l = 0) :
    Calls Tryz.prog 93 #[.slice A l.length c] w fun e w' => e = .returned (.agg #[.int .i64 (resJ true l).k, .int .i64 (resJ true l).n, .string (resJ true l).s]) ∧ Below w.heap.size w w' := by
  rw [← ref_join true h0]; exact rOr_any A c l w hr hn
end Go.Proofs.YtcbcncaoabablaaGreatDoor
