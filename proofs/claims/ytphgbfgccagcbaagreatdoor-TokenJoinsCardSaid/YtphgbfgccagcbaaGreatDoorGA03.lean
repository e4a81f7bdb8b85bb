/-
  Val7: CONTRACTS of package value: compare, Compare.
  Glob: WHAT THE PACKAGE-LEVEL VARIABLES HOLD, as the contracts ask it; kept over whatever leaves old memory alone.
  Val8: CONTRACTS of package value: String.
  Val9: CONTRACTS of package value: read, Parse.
  Val10: CONTRACTS of package value: String of a right value; Parse.
-/
import Derived.Test.YtphgbfgccagcbaaGreatDoorGA02
import Derived.Test.YtphgbfgccagcbaaGreatDoorShelf
import Derived.WalkSmall
import Derived.Test.YtphgbfgccagcbaaGreatDoorGA01
import Derived.Lib.ParseIntBTie
namespace Go.Proofs.YtphgbfgccagcbaaGreatDoor
open Go.RowKit

/-- a slice of just these two values, in a block of its own -/
theorem VReads.two {w : World} {g B : Nat} {T : TypeId} {a b : Int} {s : ByteArray} {a' b' : Int} {s' : ByteArray} (h : Blk w g T #[.int .i64 a, .int .i64 b, .string s, .int .i64 a', .int .i64 b', .string s']) (hg : g < B) :
    VReads w B (some ⟨g, 0, none⟩) [⟨a, b, s⟩, ⟨a', b', s'⟩] := fun _ => by
  refine ⟨g, 0, rfl, hg, fun i v hi => ?_⟩
  match i, hi with
  | 0, hi => simp at hi; subst hi; exact ⟨h.cell 0, h.cell 1, h.cell 2⟩
  | 1, hi => simp at hi; subst hi; exact ⟨h.cell 3, h.cell 4, h.cell 5⟩
  | i + 2, hi => simp at hi
theorem VFit.two {v u : V} (h : v.s.size ≤ maxLen) (h' : u.s.size ≤ maxLen) : VFit [v, u] := fun x hx => by
  simp at hx; rcases hx with rfl | rfl <;> assumption

end Go.Proofs.YtphgbfgccagcbaaGreatDoor
namespace Go.Proofs.YtphgbfgccagcbaaGreatDoor
open Go.RowKit

theorem gTab : Tryz.prog.globalNamed "internal/strconv.uint64pow10" = some 10 := by kernel_rfl
theorem gSyn : Tryz.prog.globalNamed "strconv.ErrSyntax" = some 8 := by kernel_rfl
theorem gRng : Tryz.prog.globalNamed "strconv.ErrRange" = some 9 := by kernel_rfl

def sNull : ByteArray := ⟨#[110, 117, 108, 108]⟩
def sFalse : ByteArray := ⟨#[102, 97, 108, 115, 101]⟩
def sTrue : ByteArray := ⟨#[116, 114, 117, 101]⟩
/-- the cells of value.words -/
def wordCells : Array Value := #[.string sNull, .string ⟨#[]⟩, .string ⟨#[]⟩, .string ⟨#[]⟩, .string sFalse, .string sTrue, .string ⟨#[]⟩, .string ⟨#[]⟩]

structure G (w : World) : Prop where
  max : ∃ m : Int, w.cell? ⟨3, 0, none⟩ = some (.int .i64 m)
  tab : Lib.TabIs Tryz.prog w "internal/strconv.uint64pow10" .u64 Lib.pow10Tab
  words : ∀ i, w.cell? ⟨4, i, none⟩ = wordCells[i]?
  big : 13 ≤ w.heap.size

theorem G.below {w w' : World} {B : Nat} (h : G w) (hb : Below B w w') (hB : 13 ≤ B) : G w' where
  max := by obtain ⟨m, hm⟩ := h.max; exact ⟨m, (hb.cell (p := ⟨3, 0, none⟩) (show 3 < B by omega)).trans hm⟩
  tab := var?_below hb gTab (by omega) h.tab
  words := fun i => (hb.cell (p := ⟨4, i, none⟩) (show 4 < B by omega)).trans (h.words i)
  big := Nat.le_trans h.big hb.size
theorem G.thn {w w' : World} (h : G w) (hb : Below w.heap.size w w') : G w' := h.below hb h.big

/-- the same, and the two errors that parsing a number may give (rows that read strings alone list them) -/
structure GE (w : World) : Prop where
  g : G w
  syn : ∃ tp p, w.var? Tryz.prog "strconv.ErrSyntax" = some #[.iface tp p]
  rng : ∃ tp p, w.var? Tryz.prog "strconv.ErrRange" = some #[.iface tp p]
theorem GE.below {w w' : World} {B : Nat} (h : GE w) (hb : Below B w w') (hB : 13 ≤ B) : GE w' where
  g := h.g.below hb hB
  syn := by obtain ⟨tp, p, hv⟩ := h.syn; exact ⟨tp, p, var?_below hb gSyn (by omega) hv⟩
  rng := by obtain ⟨tp, p, hv⟩ := h.rng; exact ⟨tp, p, var?_below hb gRng (by omega) hv⟩
theorem GE.thn {w w' : World} (h : GE w) (hb : Below w.heap.size w w') : GE w' := h.below hb h.g.big

theorem G.cells {w : World} (h : G w) :
    w.cell? ⟨4, 0, none⟩ = some (.string sNull) ∧ w.cell? ⟨4, 1, none⟩ = some (.string ⟨#[]⟩) ∧ w.cell? ⟨4, 2, none⟩ = some (.string ⟨#[]⟩) ∧ w.cell? ⟨4, 3, none⟩ = some (.string ⟨#[]⟩) ∧
    w.cell? ⟨4, 4, none⟩ = some (.string sFalse) ∧ w.cell? ⟨4, 5, none⟩ = some (.string sTrue) ∧ w.cell? ⟨4, 6, none⟩ = some (.string ⟨#[]⟩) ∧ w.cell? ⟨4, 7, none⟩ = some (.string ⟨#[]⟩) :=
  ⟨h.words 0, h.words 1, h.words 2, h.words 3, h.words 4, h.words 5, h.words 6, h.words 7⟩
end Go.Proofs.YtphgbfgccagcbaaGreatDoor
namespace Go.Proofs.YtphgbfgccagcbaaGreatDoor
open Go.RowKit

/-- the bytes of a right value's string -/
def strB (k n : Int) (s : ByteArray) : List UInt8 :=
  if k = 1 then Lib.itoa n else if k = 3 then 39 :: (Lib.replaceAll s.data.toList [39] [39, 39] ++ [39]) else if k = 0 then sNull.data.toList else if n = 0 then sFalse.data.toList else sTrue.data.toList

theorem below_grow (w : World) (k : Nat) (os : Array Obj) : Below w.heap.size w (Sort.grow (w.drewN k) os) :=
  ⟨rfl, rfl, rfl, by show w.heap.size ≤ (w.heap ++ os).size; rw [Array.size_append]; omega, fun j hj => by show (w.heap ++ os)[j]? = w.heap[j]?; rw [Array.getElem?_append_left hj]⟩
theorem ret_si {a b : ByteArray} {k : IntKind} {x y : Int} (h : a = b) (h' : x = y) : Ending.returned (.tuple #[.string a, .int k x]) = .returned (.tuple #[.string b, .int k y]) := by rw [h, h']

set_option maxHeartbeats 400000 in
theorem String_err (k n : Int) (s : ByteArray) (w : World) (hs : s.size ≤ maxLen) (h0 : chk [⟨k, n, s⟩] ≠ 0) :
    Calls Tryz.prog 100 #[.agg #[.int .i64 k, .int .i64 n, .string s]] w fun e w' => e = .returned (.tuple #[.string ⟨#[]⟩, .int .i64 (chk [⟨k, n, s⟩])]) ∧ Below w.heap.size w w' := by
  have he : (chk [⟨k, n, s⟩] != 0) = true := by simp [h0]
  clear h0
  go_enter Tryz.func100, Tryz.ntmps100
  go_wp2_with fail
  have A3 := Blk.new' (w := w.alloc (.cells #[.int .i64 k, .int .i64 n, .string s] 63)) (g := w.heap.size + 1) (t := 63) (cs := #[.int .i64 k, .int .i64 n, .string s]) (by simp)
  refine (check_any _ _ [⟨k, n, s⟩] _ (VReads.one A3 (by simp)) (VFit.one hs) (by simp [maxLen])).mono ?_
  rintro e w1 ⟨rfl, hb1⟩
  go_wp2_with fail
  go_ret2
  exact ⟨rfl, thn (al (al (Below.refl _ w) _) _) hb1⟩

set_option maxHeartbeats 400000 in
theorem String_int (n : Int) (s : ByteArray) (w : World) (hG : G w) (hs : s.size ≤ maxLen) (h0 : chk [⟨1, n, s⟩] = 0) (hn0 : -9223372036854775808 ≤ n) (hn1 : n ≤ 9223372036854775807) :
    Calls Tryz.prog 100 #[.agg #[.int .i64 1, .int .i64 n, .string s]] w fun e w' => e = .returned (.tuple #[.string ⟨(strB 1 n s).toArray⟩, .int .i64 0]) ∧ Below w.heap.size w w' := by
  have he : (chk [⟨1, n, s⟩] != 0) = false := by simp [h0]
  clear h0
  go_enter Tryz.func100, Tryz.ntmps100
  go_wp2_with fail
  have A3 := Blk.new' (w := w.alloc (.cells #[.int .i64 1, .int .i64 n, .string s] 63)) (g := w.heap.size + 1) (t := 63) (cs := #[.int .i64 1, .int .i64 n, .string s]) (by simp)
  refine (check_any _ _ [⟨1, n, s⟩] _ (VReads.one A3 (by simp)) (VFit.one hs) (by simp [maxLen])).mono ?_
  rintro e w1 ⟨rfl, hb1⟩
  have W1 := thn (al (al (Below.refl _ w) _) _) hb1
  have E1 := ((Blk.new' (w := w) (g := w.heap.size) (t := 63) (cs := #[.int .i64 1, .int .i64 n, .string s]) rfl).alloc (.cells #[.int .i64 1, .int .i64 n, .string s] 63)).below hb1 (by simp <;> omega)
  obtain ⟨⟨a0, a1, a2⟩, ax⟩ := E1.three
  clear ax A3 hb1 E1
  go_wp2_with fail
  have HG := Lib.hid (hG.thn W1)
  refine (Tryz.strconv_FormatInt_10 n hn0 hn1 _ HG.out.tab).mono ?_
  rintro e w2 ⟨rfl, kk, os, rfl⟩
  go_wp2_with fail
  go_ret2
  exact ⟨ret_si rfl rfl, thn W1 (below_grow _ _ _)⟩

theorem replaceK_len (old new : List UInt8) : ∀ (k : Nat) (s : List UInt8), (Lib.replaceK old new k s).length ≤ s.length + k * new.length
  | 0, s => by simp [Lib.replaceK]
  | k + 1, s => by
    unfold Lib.replaceK
    split
    · omega
    · have ih := replaceK_len old new k (s.drop ((Lib.index s old).toNat + old.length))
      simp only [List.length_append, List.length_take, List.length_drop] at ih ⊢
      rw [Nat.succ_mul]
      omega
theorem countB_le (s sub : ByteArray) (h1 : 1 ≤ sub.size) : Lib.countB s sub ≤ s.size := by
  have := Lib.countB_mul_le sub h1 s.size s (Nat.le_refl _)
  exact Nat.le_trans (Nat.le_mul_of_pos_right _ h1) this

theorem replaceAll_len (s old new : ByteArray) (h1 : 1 ≤ old.size) : (Lib.replaceAll s.data.toList old.data.toList new.data.toList).length ≤ s.size + s.size * new.size := by
  have hc := countB_le s old h1
  have e1 : s.data.toList.length = s.size := Array.length_toList
  have e2 : new.data.toList.length = new.size := Array.length_toList
  unfold Lib.replaceAll Lib.replace
  split
  · omega
  · have hk := replaceK_len old.data.toList new.data.toList (Lib.replaceNum s.data.toList old.data.toList (-1)) s.data.toList
    have hn : Lib.replaceNum s.data.toList old.data.toList (-1) = Lib.countB s old := by unfold Lib.replaceNum; rw [if_pos (Or.inl (by decide))]
    rw [hn, e1, e2] at hk
    rw [hn]
    exact Nat.le_trans hk (Nat.add_le_add_left (Nat.mul_le_mul_right _ hc) _)
set_option maxHeartbeats 400000 in
theorem String_text (n : Int) (s : ByteArray) (w : World) (hG : G w) (hs : s.size ≤ 1000000) (h0 : chk [⟨3, n, s⟩] = 0) :
    Calls Tryz.prog 100 #[.agg #[.int .i64 3, .int .i64 n, .string s]] w fun e w' => e = .returned (.tuple #[.string ⟨(strB 3 n s).toArray⟩, .int .i64 0]) ∧ Below w.heap.size w w' := by
  have he : (chk [⟨3, n, s⟩] != 0) = false := by simp [h0]
  clear h0
  go_enter Tryz.func100, Tryz.ntmps100
  go_wp2_with fail
  have A3 := Blk.new' (w := w.alloc (.cells #[.int .i64 3, .int .i64 n, .string s] 63)) (g := w.heap.size + 1) (t := 63) (cs := #[.int .i64 3, .int .i64 n, .string s]) (by simp)
  refine (check_any _ _ [⟨3, n, s⟩] _ (VReads.one A3 (by simp)) (VFit.one (show s.size ≤ maxLen by unfold maxLen; omega)) (by simp [maxLen])).mono ?_
  rintro e w1 ⟨rfl, hb1⟩
  have W1 := thn (al (al (Below.refl _ w) _) _) hb1
  have E1 := ((Blk.new' (w := w) (g := w.heap.size) (t := 63) (cs := #[.int .i64 3, .int .i64 n, .string s]) rfl).alloc (.cells #[.int .i64 3, .int .i64 n, .string s] 63)).below hb1 (by simp <;> omega)
  obtain ⟨⟨a0, a1, a2⟩, ax⟩ := E1.three
  clear ax A3 hb1 E1
  go_wp2_with fail
  have HG := Lib.hid (hG.thn W1)
  obtain ⟨m, hm⟩ := HG.out.max
  have hc := countB_le s ⟨#[39]⟩ (by decide)
  refine (Tryz.strings_ReplaceAll s ⟨#[39]⟩ ⟨#[39, 39]⟩ m _ (by omega) hm (by decide) (by have : (⟨#[39, 39]⟩ : ByteArray).size = 2 := rfl; rw [this]; omega)).mono ?_
  rintro e w2 ⟨rfl, hb2⟩
  clear hm hc
  have hL := replaceAll_len s ⟨#[39]⟩ ⟨#[39, 39]⟩ (by decide)
  have h22 : (⟨#[39, 39]⟩ : ByteArray).size = 2 := rfl
  rw [h22] at hL
  clear h22
  generalize hR : Lib.replaceAll s.data.toList (⟨#[39]⟩ : ByteArray).data.toList (⟨#[39, 39]⟩ : ByteArray).data.toList = r at hL ⊢
  have HS : Hid (strB 3 n s = 39 :: (r ++ [39])) := by show strB 3 n s = _; rw [← hR]; rfl
  clear hR
  have g1 : ¬ 9223372036854775807 < 1 + r.length := by omega
  have g2 : ¬ 9223372036854775807 < 1 + r.length + 1 := by omega
  go_wp2_with fail
  go_ret2
  refine ⟨ret_si ?_ rfl, thn W1 hb2⟩
  rw [HS.out]
  apply ByteArray.ext
  simp [ByteArray.data_append]

set_option maxHeartbeats 400000 in
theorem String_word (k n : Int) (s x : ByteArray) (w : World) (hG : G w) (hs : s.size ≤ maxLen) (h0 : chk [⟨k, n, s⟩] = 0)
    (hk : (k = 0 ∧ n = 0 ∧ x = sNull) ∨ (k = 2 ∧ n = 0 ∧ x = sFalse) ∨ (k = 2 ∧ n = 1 ∧ x = sTrue)) :
    Calls Tryz.prog 100 #[.agg #[.int .i64 k, .int .i64 n, .string s]] w fun e w' => e = .returned (.tuple #[.string x, .int .i64 0]) ∧ Below w.heap.size w w' := by
  have he : (chk [⟨k, n, s⟩] != 0) = false := by simp [h0]
  clear h0
  rcases hk with ⟨rfl, rfl, rfl⟩ | ⟨rfl, rfl, rfl⟩ | ⟨rfl, rfl, rfl⟩
  all_goals
    have HG := Lib.hid hG
    clear hG
    go_enter Tryz.func100, Tryz.ntmps100
    go_wp2_with fail
    refine (check_any _ _ [⟨_, _, s⟩] _ (VReads.one (Blk.new' (g := w.heap.size + 1) (by simp)) (by simp)) (VFit.one hs) (by simp [maxLen])).mono ?_
    rintro e w1 ⟨rfl, hb1⟩
    have W1 := thn (al (al (Below.refl _ w) _) _) hb1
    have E1 := ((Blk.new' (w := w) (g := w.heap.size) (t := 63) rfl).alloc _).below hb1 (by simp <;> omega)
    obtain ⟨⟨a0, a1, a2⟩, ax⟩ := E1.three
    have HG1 := HG.out.thn W1
    have q0 := HG1.words 0
    have q4 := HG1.words 4
    have q5 := HG1.words 5
    have W1' := Lib.hid W1
    clear ax hb1 E1 HG1 W1
    simp only [wordCells] at q0 q4 q5
    go_wp2_with fail
    go_quiet (fail)
    go_wp2_with fail
    go_ret2
    exact ⟨rfl, below_drewN W1'.out _⟩
end Go.Proofs.YtphgbfgccagcbaaGreatDoor
namespace Go.Proofs.YtphgbfgccagcbaaGreatDoor
open Go.RowKit

theorem idx2_0 (a b s : ByteArray) (h : s = a) : Lib.idxOfS [a, b] s = 0 := by
  have := Lib.idxOfS_hit [a, b] 2 0 s (by decide) (by simp) (by simp [h]) (fun j hj => absurd hj (Nat.not_lt_zero _))
  simpa using this
theorem idx2_1 (a b s : ByteArray) (ha : s ≠ a) (h : s = b) : Lib.idxOfS [a, b] s = 1 := by
  have := Lib.idxOfS_hit [a, b] 2 1 s (by decide) (by simp) (by simp [h]) (fun j hj => by
    obtain rfl : j = 0 := by omega
    simpa using fun e => ha e.symm)
  simpa using this
theorem idx2_no (a b s : ByteArray) (ha : s ≠ a) (hb : s ≠ b) : Lib.idxOfS [a, b] s = -1 := by
  have := Lib.idxOfS_miss [a, b] 2 s (fun j hj => by
    match j, hj with
    | 0, _ => simpa using fun e => ha e.symm
    | 1, _ => simpa using fun e => hb e.symm)
  simpa using this

def idx2 (a b s : ByteArray) : Int := if s = a then 0 else if s = b then 1 else -1
theorem index2 (g : Nat) (a b s : ByteArray) (w : World) (h : Blk w g 159 #[.string a, .string b]) :
    Calls Tryz.prog 116 #[.slice (some ⟨g, 0, none⟩) 2 2, .string s] w fun e w' => e = .returned (.int .i64 (idx2 a b s)) ∧ w = w' := by
  refine (Tryz.slices_Index_string g 0 2 2 [a, b] s w (by simp) (by decide) (fun j hj => ?_)).mono fun e w' ⟨he, hw⟩ => ⟨?_, hw.symm⟩
  · match j, hj with
    | 0, _ => exact h.cell 0
    | 1, _ => exact h.cell 1
  · rw [he]
    have e2 : List.take 2 [a, b] = [a, b] := rfl
    rw [e2]
    unfold idx2
    by_cases h1 : s = a
    · rw [idx2_0 a b s h1, if_pos h1]
    · by_cases h2 : s = b
      · rw [idx2_1 a b s h1 h2, if_neg h1, if_pos h2]
      · rw [idx2_no a b s h1 h2, if_neg h1, if_neg h2]

/-- the number that read finds -/
def numV (s : ByteArray) : Int := match Lib.parseIntB 64 s.data.toList with
  | .ok v => v
  | .range => Lib.intSat 64 s.data.toList
  | _ => 0
/-- the text that read finds -/
def textV (s : ByteArray) : ByteArray := ⟨(Lib.replaceAll (Lib.trimSuffix (Lib.trimPrefix s.data.toList [39]) [39]) [39, 39] [39]).toArray⟩
/-- what read returns -/
def readV (s : ByteArray) : V :=
  if s = sNull then ⟨0, 0, ⟨#[]⟩⟩ else if s = ⟨#[]⟩ then ⟨0, 1, ⟨#[]⟩⟩ else if s = sFalse then ⟨2, 0, ⟨#[]⟩⟩ else if s = sTrue then ⟨2, 1, ⟨#[]⟩⟩
  else if Lib.hasPrefix s.data.toList [39] = true then ⟨3, 0, textV s⟩ else ⟨1, numV s, ⟨#[]⟩⟩

theorem trimPrefix_len (s p : List UInt8) : (Lib.trimPrefix s p).length ≤ s.length := by unfold Lib.trimPrefix; split <;> simp
theorem trimSuffix_len (s p : List UInt8) : (Lib.trimSuffix s p).length ≤ s.length := by unfold Lib.trimSuffix; split <;> simp
theorem below_bytes (w : World) (e : TypeId) (s : ByteArray) : Below w.heap.size w (Lib.bytesWorld w e s) :=
  ⟨rfl, rfl, rfl, by rw [Lib.bytesWorld_size]; omega, fun j hj => Lib.bytesWorld_at_old w e s j hj⟩
theorem idx8_0 (a b c d e f g h : ByteArray) (w : World) : (Instr.index 160 (.agg #[.string a, .string b, .string c, .string d, .string e, .string f, .string g, .string h]) (.int .i64 0)).run Tryz.prog w = .ok (.agg #[.string a, .string b]) w := by kernel_rfl
theorem idx8_1 (a b c d e f g h : ByteArray) (w : World) : (Instr.index 160 (.agg #[.string a, .string b, .string c, .string d, .string e, .string f, .string g, .string h]) (.int .i64 1)).run Tryz.prog w = .ok (.agg #[.string c, .string d]) w := by kernel_rfl
theorem idx8_2 (a b c d e f g h : ByteArray) (w : World) : (Instr.index 160 (.agg #[.string a, .string b, .string c, .string d, .string e, .string f, .string g, .string h]) (.int .i64 2)).run Tryz.prog w = .ok (.agg #[.string e, .string f]) w := by kernel_rfl
theorem idx8_3 (a b c d e f g h : ByteArray) (w : World) : (Instr.index 160 (.agg #[.string a, .string b, .string c, .string d, .string e, .string f, .string g, .string h]) (.int .i64 3)).run Tryz.prog w = .ok (.agg #[.string g, .string h]) w := by kernel_rfl

set_option maxHeartbeats 1000000 in
set_option maxRecDepth 100000 in
theorem read_any (s : ByteArray) (w : World) (hG : GE w) (hs : s.size ≤ 1000000) :
    Calls Tryz.prog 99 #[.string s] w fun e w' => e = .returned (.agg #[.int .i64 (readV s).k, .int .i64 (readV s).n, .string (readV s).s]) ∧ Below w.heap.size w w' := by
  obtain ⟨q0, q1, q2, q3, q4, q5, q6, q7⟩ := hG.g.cells
  have hbig : 4 < w.heap.size := by have := hG.g.big; omega
  have HG := Lib.hid hG
  have HS := Lib.hid hs
  clear hG hs
  have i0 := @idx8_0
  have i1 := @idx8_1
  have i2 := @idx8_2
  have i3 := @idx8_3
  go_enter Tryz.func99, Tryz.ntmps99
  go_wp2_with fail
  go_loopw [11] (fun i wr => ∃ k : Int, (k = 0 ∨ k = 1 ∨ k = 2 ∨ k = 3 ∨ k = 4) ∧ i = .int .i64 k ∧ Hid (1 ≤ k → s ≠ sNull ∧ s ≠ ⟨#[]⟩) ∧ Hid (3 ≤ k → s ≠ sFalse ∧ s ≠ sTrue) ∧ Hid (Below w.heap.size w wr) ∧ Blk wr w.heap.size 63 #[.int .i64 0, .int .i64 0, .string ⟨#[]⟩]) (fun i _ => (4 - intOf i).toNat)
  case atStart => exact ⟨0, .inl rfl, rfl, fun h => absurd h (by omega), fun h => absurd h (by omega), al (Below.refl _ _) _, Blk.new' rfl⟩
  case round =>
    obtain ⟨k, hk, rfl, h1, h3, HB, BR⟩ := hrel
    clear q0 q1 q2 q3 q4 q5 q6 q7
    obtain ⟨⟨r0, r1, r2⟩, f0, f1, f2⟩ := BR.three
    have hlt := BR.lt
    rcases hk with rfl | rfl | rfl | rfl | rfl
    · by_cases c1 : s = sNull
      · have HR : Hid (readV s = ⟨0, 0, ⟨#[]⟩⟩) := if_pos c1
        have hi : idx2 sNull ⟨#[]⟩ s = 0 := if_pos c1
        clear c1
        go_wp2_with fail
        refine (index2 _ _ _ s _ (Blk.new' rfl)).mono ?_
        rintro e w2 ⟨rfl, rfl⟩
        rw [hi]
        go_wp2_with fail
        refine bodyPost_ret (v := .agg #[.int .i64 0, .int .i64 0, .string ⟨#[]⟩]) (by simp [results, Tryz.results99, go_sem, r0, r1, r2, hlt]) rfl ⟨?_, al (st3 HB.out (Nat.le_refl _) _ _ _) _⟩
        rw [HR.out]
      · by_cases c2 : s = ⟨#[]⟩
        · have HR : Hid (readV s = ⟨0, 1, ⟨#[]⟩⟩) := (if_neg c1).trans (if_pos c2)
          have hi : idx2 sNull ⟨#[]⟩ s = 1 := (if_neg c1).trans (if_pos c2)
          clear c1 c2
          go_wp2_with fail
          refine (index2 _ _ _ s _ (Blk.new' rfl)).mono ?_
          rintro e w2 ⟨rfl, rfl⟩
          rw [hi]
          go_wp2_with fail
          refine bodyPost_ret (v := .agg #[.int .i64 0, .int .i64 1, .string ⟨#[]⟩]) (by simp [results, Tryz.results99, go_sem, r0, r1, r2, hlt]) rfl ⟨?_, al (st3 HB.out (Nat.le_refl _) _ _ _) _⟩
          rw [HR.out]
        · have hc1 := Lib.hid c1
          have hc2 := Lib.hid c2
          have hi : idx2 sNull ⟨#[]⟩ s = -1 := (if_neg c1).trans (if_neg c2)
          clear c1 c2
          go_wp2_with fail
          refine (index2 _ _ _ s _ (Blk.new' rfl)).mono ?_
          rintro e w2 ⟨rfl, rfl⟩
          rw [hi]
          go_wp2_with fail
          go_roundw
          case rel => exact ⟨1, by omega, rfl, fun _ => ⟨hc1.out, hc2.out⟩, fun h => absurd h (by omega), al HB.out _, BR.alloc _⟩
          case measure => simp [intOf]
    · have c1 := (h1.out (by omega)).2
      have hi : idx2 ⟨#[]⟩ ⟨#[]⟩ s = -1 := (if_neg c1).trans (if_neg c1)
      clear c1
      go_wp2_with fail
      refine (index2 _ _ _ s _ (Blk.new' rfl)).mono ?_
      rintro e w2 ⟨rfl, rfl⟩
      rw [hi]
      go_wp2_with fail
      go_roundw
      case rel => exact ⟨2, by omega, rfl, fun _ => h1.out (by omega), fun h => absurd h (by omega), al HB.out _, BR.alloc _⟩
      case measure => simp [intOf]
    · have n1 := Lib.hid (h1.out (by omega))
      by_cases c1 : s = sFalse
      · have HR : Hid (readV s = ⟨2, 0, ⟨#[]⟩⟩) := (if_neg n1.out.1).trans ((if_neg n1.out.2).trans (if_pos c1))
        have hi : idx2 sFalse sTrue s = 0 := if_pos c1
        clear c1
        go_wp2_with fail
        refine (index2 _ _ _ s _ (Blk.new' rfl)).mono ?_
        rintro e w2 ⟨rfl, rfl⟩
        rw [hi]
        go_wp2_with fail
        refine bodyPost_ret (v := .agg #[.int .i64 2, .int .i64 0, .string ⟨#[]⟩]) (by simp [results, Tryz.results99, go_sem, r0, r1, r2, hlt]) rfl ⟨?_, al (st3 HB.out (Nat.le_refl _) _ _ _) _⟩
        rw [HR.out]
      · by_cases c2 : s = sTrue
        · have HR : Hid (readV s = ⟨2, 1, ⟨#[]⟩⟩) := (if_neg n1.out.1).trans ((if_neg n1.out.2).trans ((if_neg c1).trans (if_pos c2)))
          have hi : idx2 sFalse sTrue s = 1 := (if_neg c1).trans (if_pos c2)
          clear c1 c2
          go_wp2_with fail
          refine (index2 _ _ _ s _ (Blk.new' rfl)).mono ?_
          rintro e w2 ⟨rfl, rfl⟩
          rw [hi]
          go_wp2_with fail
          refine bodyPost_ret (v := .agg #[.int .i64 2, .int .i64 1, .string ⟨#[]⟩]) (by simp [results, Tryz.results99, go_sem, r0, r1, r2, hlt]) rfl ⟨?_, al (st3 HB.out (Nat.le_refl _) _ _ _) _⟩
          rw [HR.out]
        · have hc1 := Lib.hid c1
          have hc2 := Lib.hid c2
          have hi : idx2 sFalse sTrue s = -1 := (if_neg c1).trans (if_neg c2)
          clear c1 c2
          go_wp2_with fail
          refine (index2 _ _ _ s _ (Blk.new' rfl)).mono ?_
          rintro e w2 ⟨rfl, rfl⟩
          rw [hi]
          go_wp2_with fail
          go_roundw
          case rel => exact ⟨3, by omega, rfl, fun _ => n1.out, fun _ => ⟨hc1.out, hc2.out⟩, al HB.out _, BR.alloc _⟩
          case measure => simp [intOf]
    · have c1 := (h1.out (by omega)).2
      have hi : idx2 ⟨#[]⟩ ⟨#[]⟩ s = -1 := (if_neg c1).trans (if_neg c1)
      clear c1
      go_wp2_with fail
      refine (index2 _ _ _ s _ (Blk.new' rfl)).mono ?_
      rintro e w2 ⟨rfl, rfl⟩
      rw [hi]
      go_wp2_with fail
      go_roundw
      case rel => exact ⟨4, by omega, rfl, fun _ => h1.out (by omega), fun _ => h3.out (by omega), al HB.out _, BR.alloc _⟩
      case measure => simp [intOf]
    · have n1 := Lib.hid (h1.out (by omega))
      have n3 := Lib.hid (h3.out (by omega))
      have HGr := Lib.hid (HG.out.thn HB.out)
      go_wp2_with fail
      refine (Tryz.strings_CutPrefix s ⟨#[39]⟩ _).mono ?_
      rintro e w2 ⟨rfl, hw2⟩
      obtain rfl : wr = w2 := hw2.symm
      by_cases hp : Lib.hasPrefix s.data.toList [39] = true
      · have HR : Hid (readV s = ⟨3, 0, textV s⟩) := (if_neg n1.out.1).trans ((if_neg n1.out.2).trans ((if_neg n3.out.1).trans ((if_neg n3.out.2).trans (if_pos hp))))
        have hp' : Lib.hasPrefix s.data.toList (⟨#[39]⟩ : ByteArray).data.toList = true := hp
        rw [hp']
        clear hp hp'
        have hL := trimPrefix_len s.data.toList [39]
        have hT : Hid (textV s = ⟨(Lib.replaceAll (Lib.trimSuffix (Lib.trimPrefix s.data.toList (⟨#[39]⟩ : ByteArray).data.toList) [39]) [39, 39] [39]).toArray⟩) := rfl
        change (Lib.trimPrefix s.data.toList (⟨#[39]⟩ : ByteArray).data.toList).length ≤ _ at hL
        generalize Lib.trimPrefix s.data.toList (⟨#[39]⟩ : ByteArray).data.toList = p at hL hT ⊢
        have HL : Hid (p.length ≤ 1000000) := by
          have e1 : s.data.toList.length = s.size := Array.length_toList
          rw [e1] at hL
          exact Nat.le_trans hL HS.out
        clear hL
        go_wp2_with fail
        refine (Tryz.strings_TrimSuffix ⟨p.toArray⟩ ⟨#[39]⟩ _ (by have := HL.out; simp [ByteArray.size]; omega)).mono ?_
        rintro e w2 ⟨rfl, rfl⟩
        have hL2 := trimSuffix_len p [39]
        have hT2 : Hid (textV s = ⟨(Lib.replaceAll (Lib.trimSuffix (⟨p.toArray⟩ : ByteArray).data.toList (⟨#[39]⟩ : ByteArray).data.toList) [39, 39] [39]).toArray⟩) := hT.out
        change (Lib.trimSuffix (⟨p.toArray⟩ : ByteArray).data.toList (⟨#[39]⟩ : ByteArray).data.toList).length ≤ _ at hL2
        generalize Lib.trimSuffix (⟨p.toArray⟩ : ByteArray).data.toList (⟨#[39]⟩ : ByteArray).data.toList = q at hL2 hT2 ⊢
        have HL2 : Hid (q.length ≤ 1000000) := Nat.le_trans hL2 HL.out
        clear hL2 hT
        obtain ⟨m, hm⟩ := HGr.out.g.max
        go_wp2_with fail
        have hc := countB_le ⟨q.toArray⟩ ⟨#[39, 39]⟩ (by decide)
        have hqs : (⟨q.toArray⟩ : ByteArray).size ≤ 1000000 := by have := HL2.out; simpa [ByteArray.size] using this
        refine (Tryz.strings_ReplaceAll ⟨q.toArray⟩ ⟨#[39, 39]⟩ ⟨#[39]⟩ m _ (by omega) hm (by decide) (by have h1 : (⟨#[39]⟩ : ByteArray).size = 1 := rfl; rw [h1]; omega)).mono ?_
        rintro e w3 ⟨rfl, hb3⟩
        have hT3 : Hid (textV s = ⟨(Lib.replaceAll (⟨q.toArray⟩ : ByteArray).data.toList (⟨#[39, 39]⟩ : ByteArray).data.toList (⟨#[39]⟩ : ByteArray).data.toList).toArray⟩) := hT2.out
        generalize Lib.replaceAll (⟨q.toArray⟩ : ByteArray).data.toList (⟨#[39, 39]⟩ : ByteArray).data.toList (⟨#[39]⟩ : ByteArray).data.toList = r at hT3 ⊢
        clear hm hc hqs hT2 r0 r1 r2 f0 f1 f2
        have W3 := Lib.hid (thn HB.out hb3)
        obtain ⟨⟨r0, r1, r2⟩, f0, f1, f2⟩ := (BR.below hb3 hlt).three
        clear hb3
        go_wp2_with fail
        refine bodyPost_ret (v := .agg #[.int .i64 3, .int .i64 0, .string ⟨r.toArray⟩]) (by simp [results, Tryz.results99, go_sem, r0, r1, r2]) rfl ⟨?_, st3 W3.out (Nat.le_refl _) _ _ _⟩
        rw [HR.out, hT3.out]
      · have HR : Hid (readV s = ⟨1, numV s, ⟨#[]⟩⟩) := (if_neg n1.out.1).trans ((if_neg n1.out.2).trans ((if_neg n3.out.1).trans ((if_neg n3.out.2).trans (if_neg hp))))
        have hp' : Lib.hasPrefix s.data.toList (⟨#[39]⟩ : ByteArray).data.toList = false := by simpa using hp
        rw [hp']
        clear hp hp'
        cases hpi : Lib.parseIntB 64 s.data.toList
        · rename_i v
          have HN : Hid (numV s = v) := by show numV s = v; unfold numV; rw [hpi]
          have HPI := Lib.hid hpi
          clear hpi
          go_wp2_with fail
          refine (Tryz.strconv_ParseInt_10_at64_ok s (by have := HS.out; omega) v HPI.out _).mono ?_
          rintro e w2 ⟨rfl, hw2⟩
          have hb3 : Below wr.heap.size wr w2 := by
            rcases hw2 with hw | ⟨t, hw⟩
            · rw [hw]; exact Below.refl _ _
            · rw [hw]; exact below_bytes _ _ _
          clear hw2 r0 r1 r2 f0 f1 f2
          have W3 := Lib.hid (thn HB.out hb3)
          obtain ⟨⟨r0, r1, r2⟩, f0, f1, f2⟩ := (BR.below hb3 hlt).three
          clear hb3
          go_wp2_with fail
          refine bodyPost_ret (v := .agg #[.int .i64 1, .int .i64 v, .string ⟨#[]⟩]) (by simp [results, Tryz.results99, go_sem, r0, r1, r2]) rfl ⟨?_, st3 W3.out (Nat.le_refl _) _ _ _⟩
          rw [HR.out, HN.out]
        · have HN : Hid (numV s = 0) := by show numV s = 0; unfold numV; rw [hpi]
          have HPI : Hid (Lib.parseIntB 64 s.data.toList = Lib.parseIntB 64 []) := hpi
          clear hpi
          obtain ⟨tp, pp, hvar⟩ := HGr.out.syn
          have HV := Lib.hid hvar
          clear hvar
          go_wp2_with fail
          refine (Tryz.strconv_ParseInt_10_at64_syntax_var s (by have := HS.out; omega) HPI.out tp pp _ HV.out).mono ?_
          rintro e w2 ⟨N, rfl, _, _, hb3⟩
          clear r0 r1 r2 f0 f1 f2
          have W3 := Lib.hid (thn HB.out hb3)
          obtain ⟨⟨r0, r1, r2⟩, f0, f1, f2⟩ := (BR.below hb3 hlt).three
          clear hb3
          go_wp2_with fail
          refine bodyPost_ret (v := .agg #[.int .i64 1, .int .i64 0, .string ⟨#[]⟩]) (by simp [results, Tryz.results99, go_sem, r0, r1, r2]) rfl ⟨?_, st3 W3.out (Nat.le_refl _) _ _ _⟩
          rw [HR.out, HN.out]
        · have HN : Hid (numV s = Lib.intSat 64 s.data.toList) := by show numV s = _; unfold numV; rw [hpi]
          have HPI := Lib.hid hpi
          clear hpi
          obtain ⟨tp, pp, hvar⟩ := HGr.out.rng
          have HV := Lib.hid hvar
          clear hvar
          go_wp2_with fail
          refine (Tryz.strconv_ParseInt_10_at64_range_var s (by have := HS.out; omega) HPI.out tp pp _ HV.out).mono ?_
          rintro e w2 ⟨N, rfl, _, _, hb3⟩
          clear r0 r1 r2 f0 f1 f2
          have W3 := Lib.hid (thn HB.out hb3)
          obtain ⟨⟨r0, r1, r2⟩, f0, f1, f2⟩ := (BR.below hb3 hlt).three
          clear hb3
          generalize Lib.intSat 64 s.data.toList = v at HN ⊢
          go_wp2_with fail
          refine bodyPost_ret (v := .agg #[.int .i64 1, .int .i64 v, .string ⟨#[]⟩]) (by simp [results, Tryz.results99, go_sem, r0, r1, r2]) rfl ⟨?_, st3 W3.out (Nat.le_refl _) _ _ _⟩
          rw [HR.out, HN.out]
end Go.Proofs.YtphgbfgccagcbaaGreatDoor
namespace Go.Proofs.YtphgbfgccagcbaaGreatDoor
open Go.RowKit

theorem chk_one (v : V) : chk [v] = if v.ok = true then 0 else 10 := by
  unfold chk
  rw [if_neg (by simp)]
  simp
theorem chk_one_ok {v : V} (h : v.ok = true) : chk [v] = 0 := by rw [chk_one, if_pos h]
theorem chk_one_bad {v : V} (h : v.ok = false) : chk [v] = 10 := by rw [chk_one, h]; rfl

theorem ok_cases {k n : Int} {s : ByteArray} (h : okVal k n s.data.toList = true) :
    (k = 0 ∧ n = 0 ∧ s = ⟨#[]⟩) ∨ (k = 1 ∧ s = ⟨#[]⟩) ∨ (k = 2 ∧ n = 0 ∧ s = ⟨#[]⟩) ∨ (k = 2 ∧ n = 1 ∧ s = ⟨#[]⟩) ∨ (k = 3 ∧ n = 0 ∧ okText s.data.toList = true) := by
  obtain ⟨⟨l⟩⟩ := s
  unfold okVal at h
  split at h
  · simp at h; obtain ⟨h1, h2⟩ := h; subst h1; subst h2; left; exact ⟨‹_›, rfl, rfl⟩
  · split at h
    · simp at h; subst h; right; left; exact ⟨‹_›, rfl⟩
    · split at h
      · simp at h; obtain ⟨h1, h2⟩ := h; subst h2
        rcases h1 with h1 | h1
        · right; right; left; exact ⟨‹_›, h1, rfl⟩
        · right; right; right; left; exact ⟨‹_›, h1, rfl⟩
      · split at h
        · simp at h; right; right; right; right; exact ⟨‹_›, h.1, h.2⟩
        · cases h
theorem okText_size {s : ByteArray} (h : okText s.data.toList = true) : s.size ≤ 200 := by
  unfold okText at h
  simp at h
  exact h.1

theorem String_right (k n : Int) (s : ByteArray) (w : World) (hG : G w) (h0 : okVal k n s.data.toList = true) (hn : I64 n) :
    Calls Tryz.prog 100 #[.agg #[.int .i64 k, .int .i64 n, .string s]] w fun e w' => e = .returned (.tuple #[.string ⟨(strB k n s).toArray⟩, .int .i64 0]) ∧ Below w.heap.size w w' := by
  have hc : chk [⟨k, n, s⟩] = 0 := chk_one_ok h0
  rcases ok_cases h0 with ⟨rfl, rfl, rfl⟩ | ⟨rfl, rfl⟩ | ⟨rfl, rfl, rfl⟩ | ⟨rfl, rfl, rfl⟩ | ⟨rfl, rfl, ht⟩
  · exact String_word _ _ _ sNull w hG (by simp [maxLen, ByteArray.size]) hc (.inl ⟨rfl, rfl, rfl⟩)
  · exact String_int n _ w hG (by simp [maxLen, ByteArray.size]) hc hn.1 hn.2
  · exact String_word _ _ _ sFalse w hG (by simp [maxLen, ByteArray.size]) hc (.inr (.inl ⟨rfl, rfl, rfl⟩))
  · exact String_word _ _ _ sTrue w hG (by simp [maxLen, ByteArray.size]) hc (.inr (.inr ⟨rfl, rfl, rfl⟩))
  · exact String_text _ s w hG (by have := okText_size ht; omega) hc

theorem numV_i64 (s : ByteArray) : I64 (numV s) := by
  unfold numV I64
  split
  · rename_i v h
    have := Lib.parseIntB_bounds h
    omega
  · unfold Lib.intSat
    split <;> omega
  · omega
theorem readV_i64 (s : ByteArray) : I64 (readV s).n := by
  unfold readV
  split
  · exact ⟨by decide, by decide⟩
  · split
    · exact ⟨by decide, by decide⟩
    · split
      · exact ⟨by decide, by decide⟩
      · split
        · exact ⟨by decide, by decide⟩
        · split
          · show I64 0; exact ⟨by decide, by decide⟩
          · exact numV_i64 s
theorem textV_size (s : ByteArray) : (textV s).size ≤ 2 * s.size := by
  have e1 : s.data.toList.length = s.size := Array.length_toList
  have h1 := trimPrefix_len s.data.toList [39]
  have h2 := trimSuffix_len (Lib.trimPrefix s.data.toList [39]) [39]
  have h3 := replaceAll_len ⟨(Lib.trimSuffix (Lib.trimPrefix s.data.toList [39]) [39]).toArray⟩ ⟨#[39, 39]⟩ ⟨#[39]⟩ (by decide)
  have e2 : (⟨(Lib.trimSuffix (Lib.trimPrefix s.data.toList [39]) [39]).toArray⟩ : ByteArray).size = (Lib.trimSuffix (Lib.trimPrefix s.data.toList [39]) [39]).length := by simp [ByteArray.size]
  have e3 : (⟨#[39]⟩ : ByteArray).size = 1 := rfl
  rw [e2, e3] at h3
  have e4 : (textV s).size = (Lib.replaceAll (Lib.trimSuffix (Lib.trimPrefix s.data.toList [39]) [39]) [39, 39] [39]).length := by simp [textV, ByteArray.size]
  rw [e4]
  have h4 : (Lib.replaceAll (Lib.trimSuffix (Lib.trimPrefix s.data.toList [39]) [39]) [39, 39] [39]).length ≤ _ := h3
  omega
theorem readV_size (s : ByteArray) : (readV s).s.size ≤ 2 * s.size := by
  have h0 : (⟨#[]⟩ : ByteArray).size = 0 := rfl
  unfold readV
  split
  · show (⟨#[]⟩ : ByteArray).size ≤ _; omega
  · split
    · show (⟨#[]⟩ : ByteArray).size ≤ _; omega
    · split
      · show (⟨#[]⟩ : ByteArray).size ≤ _; omega
      · split
        · show (⟨#[]⟩ : ByteArray).size ≤ _; omega
        · split
          · exact textV_size s
          · show (⟨#[]⟩ : ByteArray).size ≤ _; omega

/-- does Parse take this string? -/
def parses (s : ByteArray) : Bool := (readV s).ok && ((⟨(strB (readV s).k (readV s).n (readV s).s).toArray⟩ : ByteArray).toList == s.toList)

set_option maxHeartbeats 400000 in
theorem Parse_yes (s : ByteArray) (w : World) (hG : GE w) (hl : s.size ≤ 20000) (hp : parses s = true) :
    Calls Tryz.prog 75 #[.string s] w fun e w' => e = .returned (.tuple #[.agg #[.int .i64 (readV s).k, .int .i64 (readV s).n, .string (readV s).s], .int .i64 0]) ∧ Below w.heap.size w w' := by
  have hsz : decide ((20000 : Int) < (s.size : Int)) = false := by simp; omega
  have HS := Lib.hid hl
  have HG := Lib.hid hG
  have HI := Lib.hid (readV_i64 s)
  unfold parses at hp
  rw [Bool.and_eq_true] at hp
  have HO := Lib.hid hp.1
  have hq := hp.2
  clear hl hG hp
  go_enter Tryz.func75, Tryz.ntmps75
  go_wp2_with fail
  refine (read_any s _ (HG.out.thn (al (Below.refl _ _) _)) (by have := HS.out; omega)).mono ?_
  rintro e w1 ⟨rfl, hb1⟩
  have R1 := (Blk.new' (w := w) (g := w.heap.size) (t := 63) (cs := #[.int .i64 0, .int .i64 0, .string ⟨#[]⟩]) rfl).below hb1 (by simp)
  have W1 := Lib.hid (thn (al (Below.refl _ w) _) hb1)
  have hz1 := hb1.size
  simp at hz1
  clear hb1
  have HO' : Hid (okVal (readV s).k (readV s).n (readV s).s.data.toList = true) := HO.out
  go_wp2_with fail
  refine (String_right _ _ _ _ (HG.out.thn (al W1.out _)).g HO'.out HI.out).mono ?_
  rintro e w2 ⟨rfl, hb2⟩
  have V1 := (Blk.new' (w := w1) (g := w1.heap.size) (t := 63) (cs := #[.int .i64 (readV s).k, .int .i64 (readV s).n, .string (readV s).s]) rfl).below hb2 (by simp)
  obtain ⟨⟨v0, v1, v2⟩, vx⟩ := V1.three
  obtain ⟨⟨r0, r1, r2⟩, f0, f1, f2⟩ := ((R1.alloc _).below hb2 (by simp <;> omega)).three
  have W2 := Lib.hid (thn (al W1.out _) hb2)
  generalize (⟨(strB (readV s).k (readV s).n (readV s).s).toArray⟩ : ByteArray) = x at *
  have hne : (!(x.toList == s.toList)) = false := by rw [hq]; rfl
  clear vx hb2 V1 R1
  go_wp2_with fail
  exact bodyPost_ret (v := .tuple #[.agg #[.int .i64 (readV s).k, .int .i64 (readV s).n, .string (readV s).s], .int .i64 0]) (by simp [results, Tryz.results75, go_sem, r0, r1, r2]) rfl ⟨rfl, st3 W2.out (Nat.le_refl _) _ _ _⟩

set_option maxHeartbeats 400000 in
theorem Parse_no (s : ByteArray) (w : World) (hG : GE w) (hl : s.size ≤ 20000) (hp : parses s = false) :
    Calls Tryz.prog 75 #[.string s] w fun e w' => e = .returned (.tuple #[.agg #[.int .i64 0, .int .i64 0, .string ⟨#[]⟩], .int .i64 10]) ∧ Below w.heap.size w w' := by
  have hsz : decide ((20000 : Int) < (s.size : Int)) = false := by simp; omega
  have HS := Lib.hid hl
  have HG := Lib.hid hG
  have HI := Lib.hid (readV_i64 s)
  have HP := Lib.hid hp
  clear hl hG hp
  go_enter Tryz.func75, Tryz.ntmps75
  go_wp2_with fail
  refine (read_any s _ (HG.out.thn (al (Below.refl _ _) _)) (by have := HS.out; omega)).mono ?_
  rintro e w1 ⟨rfl, hb1⟩
  have R1 := (Blk.new' (w := w) (g := w.heap.size) (t := 63) (cs := #[.int .i64 0, .int .i64 0, .string ⟨#[]⟩]) rfl).below hb1 (by simp)
  have W1 := Lib.hid (thn (al (Below.refl _ w) _) hb1)
  have hz1 := hb1.size
  simp at hz1
  clear hb1
  by_cases ho : (readV s).ok = true
  · have HO' : Hid (okVal (readV s).k (readV s).n (readV s).s.data.toList = true) := ho
    have hq : ((⟨(strB (readV s).k (readV s).n (readV s).s).toArray⟩ : ByteArray).toList == s.toList) = false := by
      have := HP.out
      unfold parses at this
      rw [ho, Bool.true_and] at this
      exact this
    clear ho
    go_wp2_with fail
    refine (String_right _ _ _ _ (HG.out.thn (al W1.out _)).g HO'.out HI.out).mono ?_
    rintro e w2 ⟨rfl, hb2⟩
    obtain ⟨⟨r0, r1, r2⟩, f0, f1, f2⟩ := ((R1.alloc _).below hb2 (by simp <;> omega)).three
    have W2 := Lib.hid (thn (al W1.out _) hb2)
    generalize (⟨(strB (readV s).k (readV s).n (readV s).s).toArray⟩ : ByteArray) = x at *
    have hne : (!(x.toList == s.toList)) = true := by rw [hq]; rfl
    clear hb2 R1
    go_wp2_with fail
    exact bodyPost_ret (v := .tuple #[.agg #[.int .i64 0, .int .i64 0, .string ⟨#[]⟩], .int .i64 10]) (by simp [results, Tryz.results75, go_sem, r0, r1, r2]) rfl ⟨rfl, st3 W2.out (Nat.le_refl _) _ _ _⟩
  · have ho' : (readV s).ok = false := by simpa using ho
    have hc : chk [⟨(readV s).k, (readV s).n, (readV s).s⟩] = 10 := chk_one_bad ho'
    have HC := Lib.hid hc
    clear ho ho' hc
    go_wp2_with fail
    refine (String_err _ _ _ _ (by have := readV_size s; have := HS.out; unfold maxLen; omega) (by rw [HC.out]; decide)).mono ?_
    rw [HC.out]
    rintro e w2 ⟨rfl, hb2⟩
    obtain ⟨⟨r0, r1, r2⟩, f0, f1, f2⟩ := ((R1.alloc _).below hb2 (by simp <;> omega)).three
    have W2 := Lib.hid (thn (al W1.out _) hb2)
    clear hb2 R1
    go_wp2_with fail
    exact bodyPost_ret (v := .tuple #[.agg #[.int .i64 0, .int .i64 0, .string ⟨#[]⟩], .int .i64 10]) (by simp [results, Tryz.results75, go_sem, r0, r1, r2]) rfl ⟨rfl, st3 W2.out (Nat.le_refl _) _ _ _⟩
end Go.Proofs.YtphgbfgccagcbaaGreatDoor
