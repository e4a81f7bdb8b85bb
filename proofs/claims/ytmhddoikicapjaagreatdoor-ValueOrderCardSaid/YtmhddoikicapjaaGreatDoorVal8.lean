/-
  CONTRACTS of package value: String.
-/
import Derived.Test.YtmhddoikicapjaaGreatDoorGlob
import Derived.Test.YtmhddoikicapjaaGreatDoorRef1
namespace Go.Proofs.YtmhddoikicapjaaGreatDoor
open Go.RowKit

/-- the bytes of a right value's string -/
def strB (k n : Int) (s : ByteArray) : List UInt8 :=
  if k = 1 then Lib.itoa n else if k = 3 then 39 :: (Lib.replaceAll s.data.toList [39] [39, 39] ++ [39]) else if k = 0 then sNull.data.toList else if n = 0 then sFalse.data.toList else sTrue.data.toList

theorem below_grow (w : World) (k : Nat) (os : Array Obj) : Below w.heap.size w (Sort.grow (w.drewN k) os) :=
  ⟨rfl, rfl, rfl, by show w.heap.size ≤ (w.heap ++ os).size; rw [Array.size_append]; omega, fun j hj => by show (w.heap ++ os)[j]? = w.heap[j]?; rw [Array.getElem?_append_left hj]⟩
theorem ret_si {a b : ByteArray} {k : IntKind} {x y : Int} (h : a = b) (h' : x = y) : Ending.returned (.tuple #[.string a, .int k x]) = .returned (.tuple #[.string b, .int k y]) := by rw [h, h']

set_option maxHeartbeats 400000 in
theorem String_err (k n : Int) (s : ByteArray) (w : World) (hs : s.size ≤ maxLen) (h0 : chk [⟨k, n, s⟩] ≠ 0) :
    Calls Tryz.prog 25 #[.agg #[.int .i64 k, .int .i64 n, .string s]] w fun e w' => e = .returned (.tuple #[.string ⟨#[]⟩, .int .i64 (chk [⟨k, n, s⟩])]) ∧ Below w.heap.size w w' := by
  have he : (chk [⟨k, n, s⟩] != 0) = true := by simp [h0]
  clear h0
  go_enter Tryz.func25, Tryz.ntmps25
  go_wp2_with fail
  have A3 := Blk.new' (w := w.alloc (.cells #[.int .i64 k, .int .i64 n, .string s] 35)) (g := w.heap.size + 1) (t := 35) (cs := #[.int .i64 k, .int .i64 n, .string s]) (by simp)
  refine (check_any _ _ [⟨k, n, s⟩] _ (VReads.one A3 (by simp)) (VFit.one hs) (by simp [maxLen])).mono ?_
  rintro e w1 ⟨rfl, hb1⟩
  go_wp2_with fail
  go_ret2
  exact ⟨rfl, thn (al (al (Below.refl _ w) _) _) hb1⟩

set_option maxHeartbeats 400000 in
theorem String_int (n : Int) (s : ByteArray) (w : World) (hG : G w) (hs : s.size ≤ maxLen) (h0 : chk [⟨1, n, s⟩] = 0) (hn0 : -9223372036854775808 ≤ n) (hn1 : n ≤ 9223372036854775807) :
    Calls Tryz.prog 25 #[.agg #[.int .i64 1, .int .i64 n, .string s]] w fun e w' => e = .returned (.tuple #[.string ⟨(strB 1 n s).toArray⟩, .int .i64 0]) ∧ Below w.heap.size w w' := by
  have he : (chk [⟨1, n, s⟩] != 0) = false := by simp [h0]
  clear h0
  go_enter Tryz.func25, Tryz.ntmps25
  go_wp2_with fail
  have A3 := Blk.new' (w := w.alloc (.cells #[.int .i64 1, .int .i64 n, .string s] 35)) (g := w.heap.size + 1) (t := 35) (cs := #[.int .i64 1, .int .i64 n, .string s]) (by simp)
  refine (check_any _ _ [⟨1, n, s⟩] _ (VReads.one A3 (by simp)) (VFit.one hs) (by simp [maxLen])).mono ?_
  rintro e w1 ⟨rfl, hb1⟩
  have W1 := thn (al (al (Below.refl _ w) _) _) hb1
  have E1 := ((Blk.new' (w := w) (g := w.heap.size) (t := 35) (cs := #[.int .i64 1, .int .i64 n, .string s]) rfl).alloc (.cells #[.int .i64 1, .int .i64 n, .string s] 35)).below hb1 (by simp <;> omega)
  obtain ⟨⟨a0, a1, a2⟩, ax⟩ := E1.three
  clear ax A3 hb1 E1
  go_wp2_with fail
  have HG := Lib.hid (hG.thn W1)
  refine (Tryz.strconv_FormatInt_10 n hn0 hn1 _ HG.out.tab).mono ?_
  rintro e w2 ⟨rfl, kk, os, rfl⟩
  go_wp2_with fail
  go_ret2
  exact ⟨ret_si rfl rfl, thn W1 (below_grow _ _ _)⟩

theorem replaceK_len (old new : List UInt8) : ∀ (k : Nat) (s : List UInt8), (Lib.replaceK old new k s).length ≤ s.length + k * new.length
  | 0, s => by simp [Lib.replaceK]
  | k + 1, s => by
    unfold Lib.replaceK
    split
    · omega
    · have ih := replaceK_len old new k (s.drop ((Lib.index s old).toNat + old.length))
      simp only [List.length_append, List.length_take, List.length_drop] at ih ⊢
      rw [Nat.succ_mul]
      omega
theorem countB_le (s sub : ByteArray) (h1 : 1 ≤ sub.size) : Lib.countB s sub ≤ s.size := by
  have := Lib.countB_mul_le sub h1 s.size s (Nat.le_refl _)
  exact Nat.le_trans (Nat.le_mul_of_pos_right _ h1) this

theorem replaceAll_len (s old new : ByteArray) (h1 : 1 ≤ old.size) : (Lib.replaceAll s.data.toList old.data.toList new.data.toList).length ≤ s.size + s.size * new.size := by
  have hc := countB_le s old h1
  have e1 : s.data.toList.length = s.size := Array.length_toList
  have e2 : new.data.toList.length = new.size := Array.length_toList
  unfold Lib.replaceAll Lib.replace
  split
  · omega
  · have hk := replaceK_len old.data.toList new.data.toList (Lib.replaceNum s.data.toList old.data.toList (-1)) s.data.toList
    have hn : Lib.replaceNum s.data.toList old.data.toList (-1) = Lib.countB s old := by unfold Lib.replaceNum; rw [if_pos (Or.inl (by decide))]
    rw [hn, e1, e2] at hk
    rw [hn]
    exact Nat.le_trans hk (Nat.add_le_add_left (Nat.mul_le_mul_right _ hc) _)
set_option maxHeartbeats 400000 in
theorem String_text (n : Int) (s : ByteArray) (w : World) (hG : G w) (hs : s.size ≤ 1000000) (h0 : chk [⟨3, n, s⟩] = 0) :
    Calls Tryz.prog 25 #[.agg #[.int .i64 3, .int .i64 n, .string s]] w fun e w' => e = .returned (.tuple #[.string ⟨(strB 3 n s).toArray⟩, .int .i64 0]) ∧ Below w.heap.size w w' := by
  have he : (chk [⟨3, n, s⟩] != 0) = false := by simp [h0]
  clear h0
  go_enter Tryz.func25, Tryz.ntmps25
  go_wp2_with fail
  have A3 := Blk.new' (w := w.alloc (.cells #[.int .i64 3, .int .i64 n, .string s] 35)) (g := w.heap.size + 1) (t := 35) (cs := #[.int .i64 3, .int .i64 n, .string s]) (by simp)
  refine (check_any _ _ [⟨3, n, s⟩] _ (VReads.one A3 (by simp)) (VFit.one (show s.size ≤ maxLen by unfold maxLen; omega)) (by simp [maxLen])).mono ?_
  rintro e w1 ⟨rfl, hb1⟩
  have W1 := thn (al (al (Below.refl _ w) _) _) hb1
  have E1 := ((Blk.new' (w := w) (g := w.heap.size) (t := 35) (cs := #[.int .i64 3, .int .i64 n, .string s]) rfl).alloc (.cells #[.int .i64 3, .int .i64 n, .string s] 35)).below hb1 (by simp <;> omega)
  obtain ⟨⟨a0, a1, a2⟩, ax⟩ := E1.three
  clear ax A3 hb1 E1
  go_wp2_with fail
  have HG := Lib.hid (hG.thn W1)
  obtain ⟨m, hm⟩ := HG.out.max
  have hc := countB_le s ⟨#[39]⟩ (by decide)
  refine (Tryz.strings_ReplaceAll s ⟨#[39]⟩ ⟨#[39, 39]⟩ m _ (by omega) hm (by decide) (by have : (⟨#[39, 39]⟩ : ByteArray).size = 2 := rfl; rw [this]; omega)).mono ?_
  rintro e w2 ⟨rfl, hb2⟩
  clear hm hc
  have hL := replaceAll_len s ⟨#[39]⟩ ⟨#[39, 39]⟩ (by decide)
  have h22 : (⟨#[39, 39]⟩ : ByteArray).size = 2 := rfl
  rw [h22] at hL
  clear h22
  generalize hR : Lib.replaceAll s.data.toList (⟨#[39]⟩ : ByteArray).data.toList (⟨#[39, 39]⟩ : ByteArray).data.toList = r at hL ⊢
  have HS : Hid (strB 3 n s = 39 :: (r ++ [39])) := by show strB 3 n s = _; rw [← hR]; rfl
  clear hR
  have g1 : ¬ 9223372036854775807 < 1 + r.length := by omega
  have g2 : ¬ 9223372036854775807 < 1 + r.length + 1 := by omega
  go_wp2_with fail
  go_ret2
  refine ⟨ret_si ?_ rfl, thn W1 hb2⟩
  rw [HS.out]
  apply ByteArray.ext
  simp [ByteArray.data_append]

/-- which word it is -/
def wordOf (k n : Int) : Nat := if k = 0 then 0 else if n = 0 then 4 else 5
set_option maxHeartbeats 400000 in
theorem String_word (k n : Int) (s x : ByteArray) (w : World) (hG : G w) (hs : s.size ≤ maxLen) (h0 : chk [⟨k, n, s⟩] = 0)
    (hk : (k = 0 ∧ n = 0 ∧ x = sNull) ∨ (k = 2 ∧ n = 0 ∧ x = sFalse) ∨ (k = 2 ∧ n = 1 ∧ x = sTrue)) :
    Calls Tryz.prog 25 #[.agg #[.int .i64 k, .int .i64 n, .string s]] w fun e w' => e = .returned (.tuple #[.string x, .int .i64 0]) ∧ Below w.heap.size w w' := by
  have he : (chk [⟨k, n, s⟩] != 0) = false := by simp [h0]
  clear h0
  rcases hk with ⟨rfl, rfl, rfl⟩ | ⟨rfl, rfl, rfl⟩ | ⟨rfl, rfl, rfl⟩
  all_goals
    have HG := Lib.hid hG
    clear hG
    go_enter Tryz.func25, Tryz.ntmps25
    go_wp2_with fail
    refine (check_any _ _ [⟨_, _, s⟩] _ (VReads.one (Blk.new' (g := w.heap.size + 1) (by simp)) (by simp)) (VFit.one hs) (by simp [maxLen])).mono ?_
    rintro e w1 ⟨rfl, hb1⟩
    have W1 := thn (al (al (Below.refl _ w) _) _) hb1
    have E1 := ((Blk.new' (w := w) (g := w.heap.size) (t := 35) rfl).alloc _).below hb1 (by simp <;> omega)
    obtain ⟨⟨a0, a1, a2⟩, ax⟩ := E1.three
    have HG1 := HG.out.thn W1
    have q0 := HG1.words 0
    have q4 := HG1.words 4
    have q5 := HG1.words 5
    have W1' := Lib.hid W1
    clear ax hb1 E1 HG1 W1
    simp only [wordCells] at q0 q4 q5
    go_wp2_with fail
    go_quiet (fail)
    go_wp2_with fail
    go_ret2
    exact ⟨rfl, below_drewN W1'.out _⟩
end Go.Proofs.YtmhddoikicapjaaGreatDoor
