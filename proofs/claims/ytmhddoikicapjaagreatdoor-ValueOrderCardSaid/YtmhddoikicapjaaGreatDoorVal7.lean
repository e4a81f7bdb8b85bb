/-
  CONTRACTS of package value: compare, Compare.
-/
import Derived.Test.YtmhddoikicapjaaGreatDoorVal6
import Derived.Test.YtmhddoikicapjaaGreatDoorShelf
namespace Go.Proofs.YtmhddoikicapjaaGreatDoor
open Go.RowKit

/-- how two values compare -/
def cmpV (k n : Int) (s : ByteArray) (k' n' : Int) (s' : ByteArray) : Int :=
  if k = k' then (if n = n' then Lib.compareBytes s.data.toList s'.data.toList else cmpI n n') else cmpI k k'

set_option maxHeartbeats 400000 in
theorem compare_any (k n : Int) (s : ByteArray) (k' n' : Int) (s' : ByteArray) (w : World) :
    Calls Tryz.prog 20 #[.agg #[.int .i64 k, .int .i64 n, .string s], .agg #[.int .i64 k', .int .i64 n', .string s']] w fun e w' => e = .returned (.int .i64 (cmpV k n s k' n' s')) ∧ Below w.heap.size w w' := by
  by_cases hk : k = k'
  · by_cases hn : n = n'
    · have HR : Hid (cmpV k n s k' n' s' = Lib.compareBytes s.data.toList s'.data.toList) := by show cmpV k n s k' n' s' = _; unfold cmpV; rw [if_pos hk, if_pos hn]
      have e1 : (k != k') = false := by simp [hk]
      have e2 : (n != n') = false := by simp [hn]
      clear hk hn
      go_enter Tryz.func20, Tryz.ntmps20
      go_wp2_with fail
      refine (Tryz.strings_Compare _ _ _).mono ?_
      rintro e w1 ⟨rfl, rfl⟩
      go_wp2_with fail
      go_ret
      exact ⟨ret_int HR.out.symm, al (al (Below.refl _ _) _) _⟩
    · have HR : Hid (cmpV k n s k' n' s' = cmpI n n') := by show cmpV k n s k' n' s' = _; unfold cmpV; rw [if_pos hk, if_neg hn]
      have e1 : (k != k') = false := by simp [hk]
      have e2 : (n != n') = true := by simp [hn]
      clear hk hn
      go_enter Tryz.func20, Tryz.ntmps20
      go_wp2_with fail
      refine (compare_i64 _ _ _).mono ?_
      rintro e w1 ⟨rfl, rfl⟩
      go_wp2_with fail
      go_ret
      exact ⟨ret_int HR.out.symm, al (al (Below.refl _ _) _) _⟩
  · have HR : Hid (cmpV k n s k' n' s' = cmpI k k') := if_neg hk
    have e1 : (k != k') = true := by simp [hk]
    clear hk
    go_enter Tryz.func20, Tryz.ntmps20
    go_wp2_with fail
    refine (compare_kind _ _ _).mono ?_
    rintro e w1 ⟨rfl, rfl⟩
    go_wp2_with fail
    go_ret
    exact ⟨ret_int HR.out.symm, al (al (Below.refl _ _) _) _⟩

/-- a slice of just these two values, in a block of its own -/
theorem VReads.two {w : World} {g B : Nat} {T : TypeId} {a b : Int} {s : ByteArray} {a' b' : Int} {s' : ByteArray} (h : Blk w g T #[.int .i64 a, .int .i64 b, .string s, .int .i64 a', .int .i64 b', .string s']) (hg : g < B) :
    VReads w B (some ⟨g, 0, none⟩) [⟨a, b, s⟩, ⟨a', b', s'⟩] := fun _ => by
  refine ⟨g, 0, rfl, hg, fun i v hi => ?_⟩
  match i, hi with
  | 0, hi => simp at hi; subst hi; exact ⟨h.cell 0, h.cell 1, h.cell 2⟩
  | 1, hi => simp at hi; subst hi; exact ⟨h.cell 3, h.cell 4, h.cell 5⟩
  | i + 2, hi => simp at hi
theorem VFit.two {v u : V} (h : v.s.size ≤ maxLen) (h' : u.s.size ≤ maxLen) : VFit [v, u] := fun x hx => by
  simp at hx; rcases hx with rfl | rfl <;> assumption

set_option maxHeartbeats 400000 in
theorem Compare_ok (k n : Int) (s : ByteArray) (k' n' : Int) (s' : ByteArray) (w : World) (hs : s.size ≤ maxLen) (hs' : s'.size ≤ maxLen) (h0 : chk [⟨k, n, s⟩, ⟨k', n', s'⟩] = 0) :
    Calls Tryz.prog 23 #[.agg #[.int .i64 k, .int .i64 n, .string s], .agg #[.int .i64 k', .int .i64 n', .string s']] w fun e w' => e = .returned (.tuple #[.int .i64 (cmpV k n s k' n' s'), .int .i64 0]) ∧ Below w.heap.size w w' := by
  have he : (chk [⟨k, n, s⟩, ⟨k', n', s'⟩] != 0) = false := by simp [h0]
  clear h0
  go_enter Tryz.func23, Tryz.ntmps23
  go_wp2_with fail
  have A3 := Blk.new' (w := (w.alloc (.cells #[.int .i64 k, .int .i64 n, .string s] 35)).alloc (.cells #[.int .i64 k', .int .i64 n', .string s'] 35)) (g := w.heap.size + 1 + 1) (t := 35) (cs := #[.int .i64 k, .int .i64 n, .string s, .int .i64 k', .int .i64 n', .string s']) (by simp)
  refine (check_any _ _ [⟨k, n, s⟩, ⟨k', n', s'⟩] _ (VReads.two A3 (by simp)) (VFit.two hs hs') (by simp [maxLen])).mono ?_
  rintro e w1 ⟨rfl, hb1⟩
  have E1 := (((Blk.new' (w := w) (g := w.heap.size) (t := 35) (cs := #[.int .i64 k, .int .i64 n, .string s]) rfl).alloc (.cells #[.int .i64 k', .int .i64 n', .string s'] 35)).alloc (.cells #[.int .i64 k, .int .i64 n, .string s, .int .i64 k', .int .i64 n', .string s'] 35)).below hb1 (by simp <;> omega)
  have E2 := ((Blk.new' (w := w.alloc (.cells #[.int .i64 k, .int .i64 n, .string s] 35)) (g := w.heap.size + 1) (t := 35) (cs := #[.int .i64 k', .int .i64 n', .string s']) (by simp)).alloc (.cells #[.int .i64 k, .int .i64 n, .string s, .int .i64 k', .int .i64 n', .string s'] 35)).below hb1 (by simp <;> omega)
  have W1 := thn (al (al (al (Below.refl _ w) _) _) _) hb1
  obtain ⟨⟨a0, a1, a2⟩, ax⟩ := E1.three
  obtain ⟨⟨b0, b1, b2⟩, bx⟩ := E2.three
  clear ax bx hb1 A3 E1 E2
  go_wp2_with fail
  refine (compare_any _ _ _ _ _ _ _).mono ?_
  rintro e w2 ⟨rfl, hb2⟩
  go_wp2_with fail
  go_ret2
  exact ⟨rfl, thn W1 hb2⟩
set_option maxHeartbeats 400000 in
theorem Compare_err (k n : Int) (s : ByteArray) (k' n' : Int) (s' : ByteArray) (w : World) (hs : s.size ≤ maxLen) (hs' : s'.size ≤ maxLen) (h0 : chk [⟨k, n, s⟩, ⟨k', n', s'⟩] ≠ 0) :
    Calls Tryz.prog 23 #[.agg #[.int .i64 k, .int .i64 n, .string s], .agg #[.int .i64 k', .int .i64 n', .string s']] w fun e w' => e = .returned (.tuple #[.int .i64 0, .int .i64 (chk [⟨k, n, s⟩, ⟨k', n', s'⟩])]) ∧ Below w.heap.size w w' := by
  have he : (chk [⟨k, n, s⟩, ⟨k', n', s'⟩] != 0) = true := by simp [h0]
  clear h0
  go_enter Tryz.func23, Tryz.ntmps23
  go_wp2_with fail
  have A3 := Blk.new' (w := (w.alloc (.cells #[.int .i64 k, .int .i64 n, .string s] 35)).alloc (.cells #[.int .i64 k', .int .i64 n', .string s'] 35)) (g := w.heap.size + 1 + 1) (t := 35) (cs := #[.int .i64 k, .int .i64 n, .string s, .int .i64 k', .int .i64 n', .string s']) (by simp)
  refine (check_any _ _ [⟨k, n, s⟩, ⟨k', n', s'⟩] _ (VReads.two A3 (by simp)) (VFit.two hs hs') (by simp [maxLen])).mono ?_
  rintro e w1 ⟨rfl, hb1⟩
  have W1 := thn (al (al (al (Below.refl _ w) _) _) _) hb1
  go_wp2_with fail
  go_ret2
  exact ⟨rfl, W1⟩
end Go.Proofs.YtmhddoikicapjaaGreatDoor
