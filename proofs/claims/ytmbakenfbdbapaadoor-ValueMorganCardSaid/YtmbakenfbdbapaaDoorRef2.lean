/-
  CONTRACTS of the reference: Truths, some, And, Or.
-/
import Derived.Test.YtmbakenfbdbapaaDoorRef1N
namespace Go.Proofs.YtmbakenfbdbapaaDoor
open Go.RowKit

set_option maxHeartbeats 400000 in
theorem Truths_any (A : Option Addr) (c : Nat) (l : List V) (w : World) (hr : VReads w w.heap.size A l) (hn : l.length ≤ maxLen) :
    Calls Tryd.prog 22 #[.slice A l.length c] w fun e w' => e = .returned (.bool (l.all V.tr)) ∧ w = w' := by
  unfold maxLen at hn
  go_enter Tryd.func22, Tryd.ntmps22
  go_wp2
  go_loop [3] (fun i => ∃ k : Nat, k ≤ l.length ∧ i = .int .i64 k ∧ Hid ((l.take k).all V.tr = true)) (fun i => l.length - (intOf i).toNat)
  case atStart => exact ⟨0, Nat.zero_le _, rfl, rfl⟩
  case round =>
    obtain ⟨k, hk, rfl, hall⟩ := hrel
    by_cases hlt : k < l.length
    · obtain ⟨b, o, rfl, hblk, c0, c1, c2⟩ := hr.at_ hlt
      by_cases h2 : l[k].k = 2
      · have HN := Lib.hid (all_snoc hlt hall.out (p := V.tr) (by unfold V.tr; simp [h2]))
        have e2 : (l[k].k != 2) = false := by simp [h2]
        clear h2
        go_wp2_with fail
        go_round
        case rel => exact ⟨k + 1, by omega, by go_num, HN⟩
        case measure => simp [intOf]; omega
      · by_cases h0 : l[k].k = 0
        · have HN := Lib.hid (all_snoc hlt hall.out (p := V.tr) (by unfold V.tr; simp [h0]))
          have e2 : (l[k].k != 2) = true := by simp [h2]
          have e0 : (l[k].k != 0) = false := by simp [h0]
          clear h2 h0
          go_wp2_with fail
          go_round
          case rel => exact ⟨k + 1, by omega, by go_num, HN⟩
          case measure => simp [intOf]; omega
        · have HE : Hid (l.all V.tr = false) := List.all_eq_false.2 ⟨l[k], List.getElem_mem hlt, by unfold V.tr; simp [h0, h2]⟩
          have e2 : (l[k].k != 2) = true := by simp [h2]
          have e0 : (l[k].k != 0) = true := by simp [h0]
          clear h2 h0
          go_wp2_with fail
          go_ret
          exact ⟨ret_bool HE.out.symm, rfl⟩
    · go_wp2_with fail
      go_ret
      refine ⟨ret_bool ?_, rfl⟩
      have h2 := hall.out
      rw [List.take_of_length_le (by omega)] at h2
      exact h2.symm

/-- is this value among them? -/
def someV (l : List V) (a b : Int) (s : ByteArray) : Bool := l.any fun v => veq v.k v.n v.s a b s
set_option maxHeartbeats 400000 in
theorem some_any (A : Option Addr) (c : Nat) (l : List V) (a b : Int) (s : ByteArray) (w : World) (hr : VReads w w.heap.size A l) (hn : l.length ≤ maxLen) :
    Calls Tryd.prog 44 #[.slice A l.length c, .agg #[.int .i64 a, .int .i64 b, .string s]] w fun e w' => e = .returned (.bool (someV l a b s)) ∧ Below w.heap.size w w' := by
  unfold maxLen at hn
  have heq := @eqV
  go_enter Tryd.func44, Tryd.ntmps44
  go_wp2_with fail
  go_loopw [5] (fun i wr => ∃ k : Nat, k ≤ l.length ∧ i = .int .i64 k ∧ Hid (someV (l.take k) a b s = false) ∧ Hid (Below w.heap.size w wr) ∧ Blk wr w.heap.size 24 #[.int .i64 a, .int .i64 b, .string s]) (fun i _ => l.length - (intOf i).toNat)
  case atStart => exact ⟨0, Nat.zero_le _, rfl, rfl, al (Below.refl _ _) _, Blk.new' rfl⟩
  case round =>
    obtain ⟨k, hk, rfl, hno, HB, BV⟩ := hrel
    obtain ⟨⟨e0, e1, e2⟩, ee⟩ := BV.three
    clear ee
    by_cases hlt : k < l.length
    · obtain ⟨b', o, rfl, hblk, c0, c1, c2⟩ := (hr.below HB.out HB.out.size).at_ hlt
      have hlti : (k : Int) < (l.length : Int) := by omega
      have hk0 : (0 : Int) ≤ (k : Int) := by omega
      by_cases hE : veq l[k].k l[k].n l[k].s a b s = true
      · have HE : Hid (someV l a b s = true) := List.any_eq_true.2 ⟨_, List.getElem_mem hlt, hE⟩
        go_wp2_with fail
        go_quiet (fail)
        go_wp2_with fail
        go_ret
        exact ⟨ret_bool HE.out.symm, below_drewN HB.out _⟩
      · have hE0 : veq l[k].k l[k].n l[k].s a b s = false := by simpa using hE
        have HN : Hid (someV (l.take (k + 1)) a b s = false) := by
          have h1 := hno.out
          unfold someV at h1 ⊢
          rw [any_snoc hlt, h1, hE0]; trivial
        clear hE
        go_wp2_with fail
        go_quiet (fail)
        go_wp2_with fail
        go_roundw
        case rel => exact ⟨k + 1, by omega, by go_num, HN, below_drewN HB.out _, BV.drewN _⟩
        case measure => simp [intOf]; omega
    · have HE : Hid (someV l a b s = false) := by
        have h1 := hno.out
        rw [List.take_of_length_le (by omega)] at h1
        exact h1
      go_wp2_with fail
      go_ret
      exact ⟨ret_bool HE.out.symm, HB.out⟩

/-- what the reference's And (x false) and Or (x true) return -/
def refJ (x : Bool) (l : List V) : V :=
  if someV l 2 (b2i x) ⟨#[]⟩ = true then ⟨2, b2i x, ⟨#[]⟩⟩ else if someV l 0 0 ⟨#[]⟩ = true then ⟨0, 0, ⟨#[]⟩⟩ else ⟨2, b2i (!x), ⟨#[]⟩⟩

set_option maxHeartbeats 400000 in
theorem rAnd_any (A : Option Addr) (c : Nat) (l : List V) (w : World) (hr : VReads w w.heap.size A l) (hn : l.length ≤ maxLen) :
    Calls Tryd.prog 24 #[.slice A l.length c] w fun e w' => e = .returned (.agg #[.int .i64 (refJ false l).k, .int .i64 (refJ false l).n, .string (refJ false l).s]) ∧ Below w.heap.size w w' := by
  go_enter Tryd.func24, Tryd.ntmps24
  go_wp2_with fail
  refine (rBool_any _ _).mono ?_
  rintro e w1 ⟨rfl, hb1⟩
  have W1 := thn (al (Below.refl _ w) _) hb1
  have R1 := (Blk.new' (w := w) (g := w.heap.size) (t := 24) (cs := #[.int .i64 0, .int .i64 0, .string ⟨#[]⟩]) rfl).below hb1 (by simp)
  clear hb1
  go_wp2_with fail
  refine (some_any _ _ l _ _ _ _ (hr.below W1 W1.size) hn).mono ?_
  rintro e w2 ⟨rfl, hb2⟩
  have W2 := thn W1 hb2
  have R2 := R1.below hb2 R1.lt
  clear hb2 R1 W1
  by_cases h1 : someV l 2 (b2i false) ⟨#[]⟩ = true
  · have HR : Hid (refJ false l = ⟨2, b2i false, ⟨#[]⟩⟩) := if_pos h1
    rw [h1]
    clear h1
    go_wp2_with fail
    refine (rBool_any _ _).mono ?_
    rintro e w3 ⟨rfl, hb3⟩
    have W3 := thn W2 hb3
    have R3 := R2.below hb3 R2.lt
    obtain ⟨⟨k0, k1, k2⟩, f0, f1, f2⟩ := R3.three
    go_wp2_with fail
    refine bodyPost_ret (v := .agg #[.int .i64 2, .int .i64 (b2i false), .string ⟨#[]⟩]) (by simp [results, Tryd.results24, go_sem, k0, k1, k2]) rfl ⟨?_, st3 W3 (Nat.le_refl _) _ _ _⟩
    rw [HR.out]
  · have h1' : someV l 2 (b2i false) ⟨#[]⟩ = false := by simpa using h1
    rw [h1']
    go_wp2_with fail
    refine (rNull_any _).mono ?_
    rintro e w3 ⟨rfl, hb3⟩
    have W3 := thn W2 hb3
    have R3 := R2.below hb3 R2.lt
    clear hb3 R2 W2
    go_wp2_with fail
    refine (some_any _ _ l _ _ _ _ (hr.below W3 W3.size) hn).mono ?_
    rintro e w4 ⟨rfl, hb4⟩
    have W4 := thn W3 hb4
    have R4 := R3.below hb4 R3.lt
    clear hb4 R3 W3
    by_cases h2 : someV l 0 0 ⟨#[]⟩ = true
    · have HR : Hid (refJ false l = ⟨0, 0, ⟨#[]⟩⟩) := (if_neg h1).trans (if_pos h2)
      rw [h2]
      clear h1 h1' h2
      go_wp2_with fail
      refine (rNull_any _).mono ?_
      rintro e w5 ⟨rfl, hb5⟩
      have W5 := thn W4 hb5
      have R5 := R4.below hb5 R4.lt
      obtain ⟨⟨k0, k1, k2⟩, f0, f1, f2⟩ := R5.three
      go_wp2_with fail
      refine bodyPost_ret (v := .agg #[.int .i64 0, .int .i64 0, .string ⟨#[]⟩]) (by simp [results, Tryd.results24, go_sem, k0, k1, k2]) rfl ⟨?_, st3 W5 (Nat.le_refl _) _ _ _⟩
      rw [HR.out]
    · have HR : Hid (refJ false l = ⟨2, b2i (!false), ⟨#[]⟩⟩) := (if_neg h1).trans (if_neg h2)
      have h2' : someV l 0 0 ⟨#[]⟩ = false := by simpa using h2
      rw [h2']
      clear h1 h1' h2 h2'
      go_wp2_with fail
      refine (rBool_any _ _).mono ?_
      rintro e w5 ⟨rfl, hb5⟩
      have W5 := thn W4 hb5
      have R5 := R4.below hb5 R4.lt
      obtain ⟨⟨k0, k1, k2⟩, f0, f1, f2⟩ := R5.three
      go_wp2_with fail
      refine bodyPost_ret (v := .agg #[.int .i64 2, .int .i64 (b2i (!false)), .string ⟨#[]⟩]) (by simp [results, Tryd.results24, go_sem, k0, k1, k2]) rfl ⟨?_, st3 W5 (Nat.le_refl _) _ _ _⟩
      rw [HR.out]

set_option maxHeartbeats 400000 in
theorem rOr_any (A : Option Addr) (c : Nat) (l : List V) (w : World) (hr : VReads w w.heap.size A l) (hn : l.length ≤ maxLen) :
    Calls Tryd.prog 25 #[.slice A l.length c] w fun e w' => e = .returned (.agg #[.int .i64 (refJ true l).k, .int .i64 (refJ true l).n, .string (refJ true l).s]) ∧ Below w.heap.size w w' := by
  go_enter Tryd.func25, Tryd.ntmps25
  go_wp2_with fail
  refine (rBool_any _ _).mono ?_
  rintro e w1 ⟨rfl, hb1⟩
  have W1 := thn (al (Below.refl _ w) _) hb1
  have R1 := (Blk.new' (w := w) (g := w.heap.size) (t := 24) (cs := #[.int .i64 0, .int .i64 0, .string ⟨#[]⟩]) rfl).below hb1 (by simp)
  clear hb1
  go_wp2_with fail
  refine (some_any _ _ l _ _ _ _ (hr.below W1 W1.size) hn).mono ?_
  rintro e w2 ⟨rfl, hb2⟩
  have W2 := thn W1 hb2
  have R2 := R1.below hb2 R1.lt
  clear hb2 R1 W1
  by_cases h1 : someV l 2 (b2i true) ⟨#[]⟩ = true
  · have HR : Hid (refJ true l = ⟨2, b2i true, ⟨#[]⟩⟩) := if_pos h1
    rw [h1]
    clear h1
    go_wp2_with fail
    refine (rBool_any _ _).mono ?_
    rintro e w3 ⟨rfl, hb3⟩
    have W3 := thn W2 hb3
    have R3 := R2.below hb3 R2.lt
    obtain ⟨⟨k0, k1, k2⟩, f0, f1, f2⟩ := R3.three
    go_wp2_with fail
    refine bodyPost_ret (v := .agg #[.int .i64 2, .int .i64 (b2i true), .string ⟨#[]⟩]) (by simp [results, Tryd.results25, go_sem, k0, k1, k2]) rfl ⟨?_, st3 W3 (Nat.le_refl _) _ _ _⟩
    rw [HR.out]
  · have h1' : someV l 2 (b2i true) ⟨#[]⟩ = false := by simpa using h1
    rw [h1']
    go_wp2_with fail
    refine (rNull_any _).mono ?_
    rintro e w3 ⟨rfl, hb3⟩
    have W3 := thn W2 hb3
    have R3 := R2.below hb3 R2.lt
    clear hb3 R2 W2
    go_wp2_with fail
    refine (some_any _ _ l _ _ _ _ (hr.below W3 W3.size) hn).mono ?_
    rintro e w4 ⟨rfl, hb4⟩
    have W4 := thn W3 hb4
    have R4 := R3.below hb4 R3.lt
    clear hb4 R3 W3
    by_cases h2 : someV l 0 0 ⟨#[]⟩ = true
    · have HR : Hid (refJ true l = ⟨0, 0, ⟨#[]⟩⟩) := (if_neg h1).trans (if_pos h2)
      rw [h2]
      clear h1 h1' h2
      go_wp2_with fail
      refine (rNull_any _).mono ?_
      rintro e w5 ⟨rfl, hb5⟩
      have W5 := thn W4 hb5
      have R5 := R4.below hb5 R4.lt
      obtain ⟨⟨k0, k1, k2⟩, f0, f1, f2⟩ := R5.three
      go_wp2_with fail
      refine bodyPost_ret (v := .agg #[.int .i64 0, .int .i64 0, .string ⟨#[]⟩]) (by simp [results, Tryd.results25, go_sem, k0, k1, k2]) rfl ⟨?_, st3 W5 (Nat.le_refl _) _ _ _⟩
      rw [HR.out]
    · have HR : Hid (refJ true l = ⟨2, b2i (!true), ⟨#[]⟩⟩) := (if_neg h1).trans (if_neg h2)
      have h2' : someV l 0 0 ⟨#[]⟩ = false := by simpa using h2
      rw [h2']
      clear h1 h1' h2 h2'
      go_wp2_with fail
      refine (rBool_any _ _).mono ?_
      rintro e w5 ⟨rfl, hb5⟩
      have W5 := thn W4 hb5
      have R5 := R4.below hb5 R4.lt
      obtain ⟨⟨k0, k1, k2⟩, f0, f1, f2⟩ := R5.three
      go_wp2_with fail
      refine bodyPost_ret (v := .agg #[.int .i64 2, .int .i64 (b2i (!true)), .string ⟨#[]⟩]) (by simp [results, Tryd.results25, go_sem, k0, k1, k2]) rfl ⟨?_, st3 W5 (Nat.le_refl _) _ _ _⟩
      rw [HR.out]
end Go.Proofs.YtmbakenfbdbapaaDoor
