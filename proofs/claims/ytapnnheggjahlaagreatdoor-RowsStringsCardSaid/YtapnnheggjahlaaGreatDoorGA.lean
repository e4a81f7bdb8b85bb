/-
  Plain: PLAIN MATHEMATICS of the values: what a text is, what a value is, how two are compared. No program stands in it.
  Val1: CONTRACTS of package value: isText, isValue.
  Val2: CONTRACTS of package value: check, checkTruth.
  Val3: CONTRACTS of package value: truth, opposite, joined, And, Or, Not.
  Val4: CONTRACTS of package value: joined, And, Or, Not.
  Val5: CONTRACTS of package value: joined with an error, And, Or, Not.
  Val6: CONTRACTS: cmp.isNaN, cmp.Compare at Kind and int64.
  Ref1: CONTRACTS of the reference: Null, Int, Bool, Text, Not, printable, Right, AllRight, List.
  RefL: CONTRACTS of the reference: AllRight, List.
-/
import Derived.Test.YtapnnheggjahlaaGreatDoorRows
import Derived.Below
import Derived.Lib.Hide
import Derived.Laws.OwnMore
import Derived.Deep.AppendLies
import Derived.Deep.Draws
import Derived.Laws.Rows
import Derived.WalkKit
import Derived.WalkSpells
import Derived.WalkLawsBesides
import Derived.Deep.QuietTactic
import Derived.BigQuiet
import Derived.Deep.Light
import Derived.Laws.StructEq
namespace Go.Proofs.YtapnnheggjahlaaGreatDoor
open Go.RowKit

/-- a byte that a text may have -/
def okByte (c : UInt8) : Bool := decide (32 ≤ (c.toNat : Int)) && decide ((c.toNat : Int) ≤ 126)
/-- all bytes are printable -/
def okBytes (l : List UInt8) : Bool := l.all okByte
/-- a text -/
def okText (l : List UInt8) : Bool := decide (l.length ≤ 200) && okBytes l
/-- a value -/
def okVal (k n : Int) (l : List UInt8) : Bool :=
  if k = 0 then n == 0 && l.isEmpty
  else if k = 1 then l.isEmpty
  else if k = 2 then (n == 0 || n == 1) && l.isEmpty
  else if k = 3 then n == 0 && okText l
  else false

theorem okBytes_snoc (l : List UInt8) (c : UInt8) : okBytes (l ++ [c]) = (okBytes l && okByte c) := by
  simp [okBytes]
theorem okBytes_bad (s : ByteArray) (k : Nat) (h : k < s.size) (hb : okByte s[k] = false) : okBytes s.data.toList = false := by
  unfold okBytes
  rw [List.all_eq_false]
  have hm : s[k] ∈ s.data.toList := Array.mem_toList_iff.2 (Array.getElem_mem (xs := s.data) (i := k) h)
  exact ⟨s[k], hm, by simp [hb]⟩
theorem okText_bad (s : ByteArray) (k : Nat) (h : k < s.size) (hb : okByte s[k] = false) : okText s.data.toList = false := by
  unfold okText; rw [okBytes_bad s k h hb]; simp
theorem okText_long (s : ByteArray) (h : ¬ s.size ≤ 200) : okText s.data.toList = false := by
  unfold okText; simp; omega
theorem okByte_iff (c : UInt8) : okByte c = true ↔ 32 ≤ (c.toNat : Int) ∧ (c.toNat : Int) ≤ 126 := by
  unfold okByte; simp only [Bool.and_eq_true, decide_eq_true_eq]
theorem okByte_no (c : UInt8) : okByte c = false ↔ (c.toNat : Int) < 32 ∨ 126 < (c.toNat : Int) := by
  rw [Bool.eq_false_iff, Ne, okByte_iff]; omega
/-- a value of the program: its Kind, its Int, its Text -/
structure V where
  k : Int
  n : Int
  s : ByteArray
def V.cells (v : V) : List Value := [.int .i64 v.k, .int .i64 v.n, .string v.s]
def V.val (v : V) : Value := .agg #[.int .i64 v.k, .int .i64 v.n, .string v.s]
def V.ok (v : V) : Bool := okVal v.k v.n v.s.data.toList
/-- the slice value '.slice A n c' reads as these values, and lies below block B -/
def VReads (w : World) (B : Nat) (A : Option Addr) (l : List V) : Prop :=
  0 < l.length → ∃ b o, A = some ⟨b, o, none⟩ ∧ b < B ∧ ∀ i (v : V), l[i]? = some v →
    w.cell? ⟨b, o + i * 3, none⟩ = some (.int .i64 v.k) ∧ w.cell? ⟨b, o + i * 3 + 1, none⟩ = some (.int .i64 v.n) ∧ w.cell? ⟨b, o + i * 3 + 2, none⟩ = some (.string v.s)
theorem VReads.below {w w' : World} {B B' : Nat} {A : Option Addr} {l : List V} (h : VReads w B A l) (hb : Below B w w') (hB : B ≤ B') : VReads w' B' A l := fun h0 => by
  obtain ⟨b, o, rfl, hblk, hc⟩ := h h0
  refine ⟨b, o, rfl, by omega, fun i v hi => ?_⟩
  obtain ⟨c0, c1, c2⟩ := hc i v hi
  exact ⟨(hb.cell (p := ⟨b, _, none⟩) hblk).trans c0, (hb.cell (p := ⟨b, _, none⟩) hblk).trans c1, (hb.cell (p := ⟨b, _, none⟩) hblk).trans c2⟩
theorem VReads.at_ {w : World} {B : Nat} {A : Option Addr} {l : List V} (h : VReads w B A l) {i : Nat} (hi : i < l.length) : ∃ b o, A = some ⟨b, o, none⟩ ∧ b < B ∧
    w.cell? ⟨b, o + i * 3, none⟩ = some (.int .i64 l[i].k) ∧ w.cell? ⟨b, o + i * 3 + 1, none⟩ = some (.int .i64 l[i].n) ∧ w.cell? ⟨b, o + i * 3 + 2, none⟩ = some (.string l[i].s) := by
  obtain ⟨b, o, rfl, hblk, hc⟩ := h (by omega)
  exact ⟨b, o, rfl, hblk, hc i _ (List.getElem?_eq_getElem hi)⟩
/-- every text fits -/
def VFit (l : List V) : Prop := ∀ v ∈ l, v.s.size ≤ maxLen
theorem take_snoc (s : ByteArray) (k : Nat) (h : k < s.size) : s.data.toList.take (k + 1) = s.data.toList.take k ++ [s[k]] := by
  rw [List.take_succ_eq_append_getElem (by simpa using h)]; rfl

/-- block g is just these cells, none frozen -/
def Blk (w : World) (g : Nat) (t : TypeId) (cs : Array Value) : Prop := w.heap[g]? = some (.cells cs t (0, 0))
section
variable {w w' : World} {g : Nat} {t : TypeId} {cs : Array Value}
theorem Blk.lt (h : Blk w g t cs) : g < w.heap.size := by
  rcases Nat.lt_or_ge g w.heap.size with hlt | hge
  · exact hlt
  · unfold Blk at h; rw [Array.getElem?_eq_none hge] at h; cases h
theorem Blk.cell (h : Blk w g t cs) (i : Nat) : w.cell? ⟨g, i, none⟩ = cs[i]? := cell_of_row w g i cs t (0, 0) h
theorem Blk.frozen (h : Blk w g t cs) (i : Nat) : w.frozen? ⟨g, i, none⟩ = false := by
  unfold Blk at h
  simp [World.frozen?, h]
theorem Blk.new (w : World) (t : TypeId) (cs : Array Value) : Blk (w.alloc (.cells cs t)) w.heap.size t cs := heap_alloc_new w _
theorem Blk.new' {w : World} {t : TypeId} {cs : Array Value} {g : Nat} (h : w.heap.size = g) : Blk (w.alloc (.cells cs t)) g t cs := by subst h; exact Blk.new w t cs
theorem Blk.alloc (h : Blk w g t cs) (o : Obj) : Blk (w.alloc o) g t cs := (Below.heap_alloc w o g h.lt).trans h
theorem Blk.set_ (h : Blk w g t cs) (i : Nat) (u : Value) : Blk (w.setCell ⟨g, i, none⟩ u) g t (cs.setIfInBounds i u) := by
  unfold Blk at h ⊢
  simp [World.setCell, Array.getElem?_modify, h]
theorem Blk.far (h : Blk w g t cs) {p : Addr} (hp : g ≠ p.block) (u : Value) : Blk (w.setCell p u) g t cs := (Below.heap_setCell w p u g hp).trans h
theorem Blk.below {B : Nat} (h : Blk w g t cs) (hb : Below B w w') (hg : g < B) : Blk w' g t cs := (hb.block g hg).trans h
theorem Blk.drewN (h : Blk w g t cs) (n : Nat) : Blk (w.drewN n) g t cs := h
end
theorem thn {w w0 w1 : World} (h : Below w.heap.size w w0) (h1 : Below w0.heap.size w0 w1) : Below w.heap.size w w1 := h.trans (h1.mono h.size)
theorem al {w w0 : World} (h : Below w.heap.size w w0) (o : Obj) : Below w.heap.size w (w0.alloc o) := h.alloc h.size o
theorem st3 {w w0 : World} {g : Nat} (h : Below w.heap.size w w0) (hg : w.heap.size ≤ g) (a b c : Value) :
    Below w.heap.size w (((w0.setCell ⟨g, 0, none⟩ a).setCell ⟨g, 1, none⟩ b).setCell ⟨g, 2, none⟩ c) :=
  ((h.setCell hg _).setCell hg _).setCell hg _
/-- a block of three cells -/
theorem Blk.three {w : World} {g : Nat} {t : TypeId} {a b c : Value} (h : Blk w g t #[a, b, c]) :
    (w.cell? ⟨g, 0, none⟩ = some a ∧ w.cell? ⟨g, 1, none⟩ = some b ∧ w.cell? ⟨g, 2, none⟩ = some c) ∧
    (w.frozen? ⟨g, 0, none⟩ = false ∧ w.frozen? ⟨g, 1, none⟩ = false ∧ w.frozen? ⟨g, 2, none⟩ = false) :=
  ⟨⟨h.cell 0, h.cell 1, h.cell 2⟩, ⟨h.frozen 0, h.frozen 1, h.frozen 2⟩⟩
theorem Blk.three_set {w : World} {g : Nat} {t : TypeId} {a b c : Value} (h : Blk w g t #[a, b, c]) (a' b' c' : Value) :
    Blk (((w.setCell ⟨g, 0, none⟩ a').setCell ⟨g, 1, none⟩ b').setCell ⟨g, 2, none⟩ c') g t #[a', b', c'] := by
  have := ((h.set_ 0 a').set_ 1 b').set_ 2 c'
  simpa using this
theorem Blk.far3 {w : World} {g g' : Nat} {t : TypeId} {cs : Array Value} (h : Blk w g t cs) (hg : g ≠ g') (a b c : Value) :
    Blk (((w.setCell ⟨g', 0, none⟩ a).setCell ⟨g', 1, none⟩ b).setCell ⟨g', 2, none⟩ c) g t cs := ((h.far hg _).far hg _).far hg _
theorem below_drewN {B : Nat} {a w : World} (h : Below B a w) (n : Nat) : Below B a (w.drewN n) := ⟨h.os, h.tape, h.output, h.size, h.block⟩
end Go.Proofs.YtapnnheggjahlaaGreatDoor
namespace Go.Proofs.YtapnnheggjahlaaGreatDoor
open Go.RowKit

theorem ret_bool {a b : Bool} (h : a = b) : Ending.returned (.bool a) = .returned (.bool b) := by rw [h]

set_option maxHeartbeats 400000 in
theorem isText_any (s : ByteArray) (w : World) (hs : s.size ≤ maxLen) :
    Calls Tryz.prog 166 #[.string s] w fun e w' => e = .returned (.bool (okText s.data.toList)) ∧ w = w' := by
  unfold maxLen at hs
  by_cases hl : s.size ≤ 200
  · have hsz : decide ((200 : Int) < (s.size : Int)) = false := by simp; omega
    go_enter Tryz.func166, Tryz.ntmps166
    go_wp2
    go_loop [3, 9] (fun _ i => ∃ k : Nat, k ≤ s.size ∧ i = .int .i64 k ∧ okBytes (s.data.toList.take k) = true) (fun _ i => s.size - (intOf i).toNat)
    case atStart => exact ⟨0, Nat.zero_le _, rfl, rfl⟩
    case round =>
      obtain ⟨k, hk, rfl, hr⟩ := hrel
      have HK := Lib.hid hr
      clear hr
      by_cases hlt : k < s.size
      · have hst := okBytes_snoc (s.data.toList.take k) s[k]
        rw [← take_snoc s k hlt, HK.out] at hst
        have HS := Lib.hid hst
        clear hst
        by_cases hc : okByte s[k] = true
        · obtain ⟨hc1, hc2⟩ := (okByte_iff _).1 hc
          have HC := Lib.hid hc
          clear hc
          go_wp2
          go_round
          case rel => exact ⟨k + 1, by omega, by go_num, by rw [HS.out, HC.out]; rfl⟩
          case measure => simp [intOf]; omega
        · have hc0 : okByte s[k] = false := by simpa using hc
          have HB := Lib.hid (okText_bad s k hlt hc0)
          have hcc := (okByte_no _).1 hc0
          clear hc hc0
          go_wp2
          all_goals (first | (exfalso; omega) | (go_ret; exact ⟨ret_bool HB.out.symm, rfl⟩))
      · go_wp2
        go_ret
        have e : okText s.data.toList = true := by
          have h2 := HK.out
          rw [List.take_of_length_le (by simp; omega)] at h2
          unfold okText; rw [h2]; simp; omega
        exact ⟨ret_bool e.symm, rfl⟩
  · have hsz : decide ((200 : Int) < (s.size : Int)) = true := by simp; omega
    have hres : okText s.data.toList = false := by unfold okText; simp; omega
    have HR := Lib.hid hres
    clear hres
    go_enter Tryz.func166, Tryz.ntmps166
    go_wp2
    go_ret
    exact ⟨ret_bool HR.out.symm, rfl⟩

set_option maxHeartbeats 400000 in
theorem isValue_any (k n : Int) (s : ByteArray) (w : World) (hs : s.size ≤ maxLen) :
    Calls Tryz.prog 145 #[.agg #[.int .i64 k, .int .i64 n, .string s]] w fun e w' => e = .returned (.bool (okVal k n s.data.toList)) ∧ Below w.heap.size w w' := by
  go_enter Tryz.func145, Tryz.ntmps145
  go_wp2_with (go_at_call 166; refine (isText_any _ _ hs).mono ?_; rintro e w' ⟨rfl, rfl⟩)
  all_goals go_ret
  all_goals (refine ⟨ret_bool (a := _) ?_, (Below.refl _ _).alloc (Nat.le_refl _) _⟩; go_light; simp_all [okVal, ByteArray.toList_eq])

end Go.Proofs.YtapnnheggjahlaaGreatDoor
namespace Go.Proofs.YtapnnheggjahlaaGreatDoor
open Go.RowKit

theorem ret_int {k : IntKind} {a b : Int} (h : a = b) : Ending.returned (.int k a) = .returned (.int k b) := by rw [h]

/-- what check returns -/
def chk (l : List V) : Int := if 20000 < l.length then 2 else if l.all V.ok then 0 else 10
theorem chk_large {l : List V} (h : ¬ l.length ≤ 20000) : chk l = 2 := by unfold chk; rw [if_pos (by omega)]
theorem chk_good {l : List V} (h : l.length ≤ 20000) (ha : l.all V.ok = true) : chk l = 0 := by unfold chk; rw [if_neg (by omega), if_pos ha]
theorem chk_bad {l : List V} (h : l.length ≤ 20000) {k : Nat} (hk : k < l.length) (hb : l[k].ok = false) : chk l = 10 := by
  unfold chk
  rw [if_neg (by omega), if_neg]
  rw [List.all_eq_true]
  intro hh
  have := hh l[k] (List.getElem_mem hk)
  rw [hb] at this; cases this
theorem all_snoc {l : List V} {p : V → Bool} {k : Nat} (hk : k < l.length) (h : (l.take k).all p = true) (hp : p l[k] = true) : (l.take (k + 1)).all p = true := by
  rw [List.take_succ_eq_append_getElem hk, List.all_append, h]; simp [hp]

set_option maxHeartbeats 400000 in
theorem check_any (A : Option Addr) (c : Nat) (l : List V) (w : World) (hr : VReads w w.heap.size A l) (hf : VFit l) (hn : l.length ≤ maxLen) :
    Calls Tryz.prog 119 #[.slice A l.length c] w fun e w' => e = .returned (.int .i64 (chk l)) ∧ Below w.heap.size w w' := by
  unfold maxLen at hn
  by_cases hl : l.length ≤ 20000
  · have hsz : decide ((20000 : Int) < (l.length : Int)) = false := by simp; omega
    go_enter Tryz.func119, Tryz.ntmps119
    go_wp2
    go_loopw [10] (fun i wr => ∃ k : Nat, k ≤ l.length ∧ i = .int .i64 k ∧ Hid ((l.take k).all V.ok = true) ∧ Below w.heap.size w wr) (fun i _ => l.length - (intOf i).toNat)
    case atStart => exact ⟨0, Nat.zero_le _, rfl, rfl, Below.refl _ _⟩
    case round =>
      obtain ⟨k, hk, rfl, hall, hb⟩ := hrel
      by_cases hlt : k < l.length
      · obtain ⟨b, o, rfl, hblk, c0, c1, c2⟩ := (hr.below hb hb.size).at_ hlt
        have hfk := hf l[k] (List.getElem_mem hlt)
        by_cases hok : okVal l[k].k l[k].n l[k].s.data.toList = true
        · have HN := Lib.hid (all_snoc hlt hall.out hok)
          go_wp2_with (go_at_call 145; refine (isValue_any _ _ _ _ hfk).mono ?_; rintro e w1 ⟨rfl, hb1⟩)
          go_roundw
          case rel => exact ⟨k + 1, by omega, by go_num, HN, (hb.alloc hb.size _).trans (hb1.mono (by simp; have := hb.size; omega))⟩
          case measure => simp [intOf]; omega
        · have hok0 : okVal l[k].k l[k].n l[k].s.data.toList = false := by simpa using hok
          have HE := Lib.hid (chk_bad hl hlt hok0)
          clear hok
          go_wp2_with (go_at_call 145; refine (isValue_any _ _ _ _ hfk).mono ?_; rintro e w1 ⟨rfl, hb1⟩)
          go_ret
          exact ⟨ret_int HE.out.symm, (hb.alloc hb.size _).trans (hb1.mono (by simp; have := hb.size; omega))⟩
      · go_wp2
        go_ret
        refine ⟨ret_int (chk_good hl ?_).symm, hb⟩
        have h2 := hall.out
        rw [List.take_of_length_le (by omega)] at h2
        exact h2
  · have hsz : decide ((20000 : Int) < (l.length : Int)) = true := by simp; omega
    have HR := Lib.hid (chk_large hl)
    go_enter Tryz.func119, Tryz.ntmps119
    go_wp2
    go_ret
    exact ⟨ret_int HR.out.symm, Below.refl _ _⟩

def V.tr (v : V) : Bool := v.k == 2 || v.k == 0
/-- what checkTruth returns -/
def chkT (l : List V) : Int := if chk l = 0 then (if l.all V.tr then 0 else 1) else chk l
theorem chkT_err {l : List V} (h : chk l ≠ 0) : chkT l = chk l := by unfold chkT; rw [if_neg h]
theorem chkT_good {l : List V} (h : chk l = 0) (ha : l.all V.tr = true) : chkT l = 0 := by unfold chkT; rw [if_pos h, if_pos ha]
theorem chkT_bad {l : List V} (h : chk l = 0) {k : Nat} (hk : k < l.length) (hb : l[k].tr = false) : chkT l = 1 := by
  unfold chkT
  rw [if_pos h, if_neg]
  rw [List.all_eq_true]
  intro hh
  have := hh l[k] (List.getElem_mem hk)
  rw [hb] at this; cases this

end Go.Proofs.YtapnnheggjahlaaGreatDoor
namespace Go.Proofs.YtapnnheggjahlaaGreatDoor
open Go.RowKit

def b2i (b : Bool) : Int := if b then 1 else 0
/-- two values are the same -/
def veq (a b : Int) (s : ByteArray) (a' b' : Int) (s' : ByteArray) : Bool := a == a' && (b == b' && s.toList == s'.toList)
theorem eqV (a b : Int) (s : ByteArray) (a' b' : Int) (s' : ByteArray) (w : World) :
    (binOp .eql 78 (.agg #[.int .i64 a, .int .i64 b, .string s]) (.agg #[.int .i64 a', .int .i64 b', .string s'])).run Tryz.prog w = .ok (.bool (veq a b s a' b' s')) w := by
  have hS : Tryz.prog.underlying 78 = some (.struct (Tryz.prog.fieldsOf 78)) := by kernel_rfl
  have hp : Tryz.prog.stoodInHeld 78 = false := by kernel_rfl
  rw [run_eql_struct, show (10000 : Nat) = 9999 + 1 from rfl, run_equalIn_agg w 9999 78 _ _ hS hp]
  simp only [Program.fieldsOf, Tryz.underlying78]
  go_simp
  unfold veq
  by_cases h1 : a = a' <;> by_cases h2 : b = b' <;> by_cases h3 : s.toList = s'.toList <;> simp [h1, h2, h3]
end Go.Proofs.YtapnnheggjahlaaGreatDoor
namespace Go.Proofs.YtapnnheggjahlaaGreatDoor
open Go.RowKit

def V.isE (x : Bool) (v : V) : Bool := veq v.k v.n v.s 2 (b2i x) ⟨#[]⟩
def V.isN (v : V) : Bool := v.k == 0
/-- what joined returns of right truths -/
def joinV (x : Bool) (l : List V) : V :=
  if l.any (V.isE x) then ⟨2, b2i x, ⟨#[]⟩⟩ else if l.any V.isN then ⟨0, 0, ⟨#[]⟩⟩ else ⟨2, b2i (!x), ⟨#[]⟩⟩

theorem chkT_zero {l : List V} (h : chkT l = 0) : l.length ≤ 20000 ∧ l.all V.ok = true ∧ l.all V.tr = true := by
  unfold chkT chk at h
  by_cases h1 : 20000 < l.length
  · rw [if_pos h1] at h; simp at h
  · rw [if_neg h1] at h
    by_cases h2 : l.all V.ok = true
    · rw [if_pos h2] at h
      by_cases h3 : l.all V.tr = true
      · exact ⟨by omega, h2, h3⟩
      · simp [h3] at h
    · rw [if_neg h2] at h; simp at h
theorem null_of_ok {v : V} (h : v.ok = true) (hk : v.k = 0) : v = ⟨0, 0, ⟨#[]⟩⟩ := by
  obtain ⟨k, n, ⟨⟨s⟩⟩⟩ := v
  simp only at hk
  subst hk
  simp [V.ok, okVal] at h
  obtain ⟨rfl, rfl⟩ := h
  rfl
theorem joinV_enough {x : Bool} {l : List V} {k : Nat} (hk : k < l.length) (h : V.isE x l[k] = true) : joinV x l = ⟨2, b2i x, ⟨#[]⟩⟩ := by
  unfold joinV
  rw [if_pos]
  exact List.any_eq_true.2 ⟨_, List.getElem_mem hk, h⟩
theorem any_snoc {l : List V} {p : V → Bool} {k : Nat} (hk : k < l.length) : (l.take (k + 1)).any p = ((l.take k).any p || p l[k]) := by
  rw [List.take_succ_eq_append_getElem hk, List.any_append]; simp

/-- what holds at the loop's head in joined: k values are done, none of them is the one that is enough; the three variables' blocks -/
def JInv (x : Bool) (done : List V) (ge gr go : Nat) (w wr : World) (T : TypeId) : Prop :=
  done.any (V.isE x) = false ∧ Below w.heap.size w wr ∧ go < wr.heap.size ∧ Blk wr ge T #[.int .i64 2, .int .i64 (b2i x), .string ⟨#[]⟩] ∧
  (∃ a b c, Blk wr gr T #[a, b, c]) ∧ ∃ o : V, Blk wr go T #[.int .i64 o.k, .int .i64 o.n, .string o.s] ∧ o = if done.any V.isN then ⟨0, 0, ⟨#[]⟩⟩ else ⟨2, b2i (!x), ⟨#[]⟩⟩

end Go.Proofs.YtapnnheggjahlaaGreatDoor
namespace Go.Proofs.YtapnnheggjahlaaGreatDoor
open Go.RowKit

/-- a slice that is just this one value, in a block of its own -/
theorem VReads.one {w : World} {g B : Nat} {T : TypeId} {a b : Int} {s : ByteArray} (h : Blk w g T #[.int .i64 a, .int .i64 b, .string s]) (hg : g < B) : VReads w B (some ⟨g, 0, none⟩) [⟨a, b, s⟩] := fun _ => by
  obtain ⟨⟨k0, k1, k2⟩, _⟩ := h.three
  refine ⟨g, 0, rfl, hg, fun i v hi => ?_⟩
  cases i with
  | zero => simp at hi; subst hi; exact ⟨k0, k1, k2⟩
  | succ i => simp at hi
theorem VFit.one {v : V} (h : v.s.size ≤ maxLen) : VFit [v] := fun u hu => by simp at hu; subst hu; exact h

end Go.Proofs.YtapnnheggjahlaaGreatDoor
namespace Go.Proofs.YtapnnheggjahlaaGreatDoor
open Go.RowKit

def cmpI (a b : Int) : Int := if a < b then -1 else if b < a then 1 else 0
theorem cmpI_lt {a b : Int} (h : a < b) : cmpI a b = -1 := by unfold cmpI; rw [if_pos h]
theorem cmpI_gt {a b : Int} (h : b < a) : cmpI a b = 1 := by unfold cmpI; rw [if_neg (by omega), if_pos h]
theorem cmpI_eq {a b : Int} (h : a = b) : cmpI a b = 0 := by unfold cmpI; rw [if_neg (by omega), if_neg (by omega)]

theorem isNaN_kind (a : Int) (w : World) : Calls Tryz.prog 180 #[.int .i64 a] w fun e w' => e = .returned (.bool false) ∧ w = w' := by
  go_enter Tryz.func180, Tryz.ntmps180
  go_wp2
  go_ret
  exact ⟨rfl, rfl⟩
set_option maxHeartbeats 400000 in
theorem compare_kind (a b : Int) (w : World) : Calls Tryz.prog 158 #[.int .i64 a, .int .i64 b] w fun e w' => e = .returned (.int .i64 (cmpI a b)) ∧ w = w' := by
  by_cases h1 : a < b
  · have HR := Lib.hid (cmpI_lt h1)
    go_enter Tryz.func158, Tryz.ntmps158
    go_wp2_with (go_at_call 180; refine (isNaN_kind _ _).mono ?_; rintro e w1 ⟨rfl, rfl⟩)
    go_ret
    exact ⟨ret_int HR.out.symm, rfl⟩
  · by_cases h2 : b < a
    · have HR := Lib.hid (cmpI_gt h2)
      go_enter Tryz.func158, Tryz.ntmps158
      go_wp2_with (go_at_call 180; refine (isNaN_kind _ _).mono ?_; rintro e w1 ⟨rfl, rfl⟩)
      go_ret
      exact ⟨ret_int HR.out.symm, rfl⟩
    · have HR := Lib.hid (cmpI_eq (a := a) (b := b) (by omega))
      go_enter Tryz.func158, Tryz.ntmps158
      go_wp2_with (go_at_call 180; refine (isNaN_kind _ _).mono ?_; rintro e w1 ⟨rfl, rfl⟩)
      go_ret
      exact ⟨ret_int HR.out.symm, rfl⟩
theorem isNaN_i64 (a : Int) (w : World) : Calls Tryz.prog 181 #[.int .i64 a] w fun e w' => e = .returned (.bool false) ∧ w = w' := by
  go_enter Tryz.func181, Tryz.ntmps181
  go_wp2
  go_ret
  exact ⟨rfl, rfl⟩
set_option maxHeartbeats 400000 in
theorem compare_i64 (a b : Int) (w : World) : Calls Tryz.prog 159 #[.int .i64 a, .int .i64 b] w fun e w' => e = .returned (.int .i64 (cmpI a b)) ∧ w = w' := by
  by_cases h1 : a < b
  · have HR := Lib.hid (cmpI_lt h1)
    go_enter Tryz.func159, Tryz.ntmps159
    go_wp2_with (go_at_call 181; refine (isNaN_i64 _ _).mono ?_; rintro e w1 ⟨rfl, rfl⟩)
    go_ret
    exact ⟨ret_int HR.out.symm, rfl⟩
  · by_cases h2 : b < a
    · have HR := Lib.hid (cmpI_gt h2)
      go_enter Tryz.func159, Tryz.ntmps159
      go_wp2_with (go_at_call 181; refine (isNaN_i64 _ _).mono ?_; rintro e w1 ⟨rfl, rfl⟩)
      go_ret
      exact ⟨ret_int HR.out.symm, rfl⟩
    · have HR := Lib.hid (cmpI_eq (a := a) (b := b) (by omega))
      go_enter Tryz.func159, Tryz.ntmps159
      go_wp2_with (go_at_call 181; refine (isNaN_i64 _ _).mono ?_; rintro e w1 ⟨rfl, rfl⟩)
      go_ret
      exact ⟨ret_int HR.out.symm, rfl⟩
end Go.Proofs.YtapnnheggjahlaaGreatDoor
namespace Go.Proofs.YtapnnheggjahlaaGreatDoor
open Go.RowKit

set_option maxHeartbeats 400000 in
theorem rNull_any (w : World) :
    Calls Tryz.prog 130 #[] w fun e w' => e = .returned (.agg #[.int .i64 0, .int .i64 0, .string ⟨#[]⟩]) ∧ Below w.heap.size w w' := by
  go_enter Tryz.func130, Tryz.ntmps130
  go_wp2
  exact bodyPost_ret (v := .agg #[.int .i64 0, .int .i64 0, .string ⟨#[]⟩]) (by simp [results, Tryz.results130, go_sem]) rfl ⟨rfl, al (Below.refl _ _) _⟩
set_option maxHeartbeats 400000 in
theorem rInt_any (n : Int) (w : World) :
    Calls Tryz.prog 51 #[.int .i64 n] w fun e w' => e = .returned (.agg #[.int .i64 1, .int .i64 n, .string ⟨#[]⟩]) ∧ Below w.heap.size w w' := by
  go_enter Tryz.func51, Tryz.ntmps51
  go_wp2
  exact bodyPost_ret (v := .agg #[.int .i64 1, .int .i64 n, .string ⟨#[]⟩]) (by simp [results, Tryz.results51, go_sem]) rfl ⟨rfl, al (Below.refl _ _) _⟩
set_option maxHeartbeats 400000 in
theorem rText_any (s : ByteArray) (w : World) :
    Calls Tryz.prog 132 #[.string s] w fun e w' => e = .returned (.agg #[.int .i64 3, .int .i64 0, .string s]) ∧ Below w.heap.size w w' := by
  go_enter Tryz.func132, Tryz.ntmps132
  go_wp2
  exact bodyPost_ret (v := .agg #[.int .i64 3, .int .i64 0, .string s]) (by simp [results, Tryz.results132, go_sem]) rfl ⟨rfl, al (Below.refl _ _) _⟩
set_option maxHeartbeats 400000 in
theorem rBool_any (x : Bool) (w : World) :
    Calls Tryz.prog 131 #[.bool x] w fun e w' => e = .returned (.agg #[.int .i64 2, .int .i64 (b2i x), .string ⟨#[]⟩]) ∧ Below w.heap.size w w' := by
  cases x
  · go_enter Tryz.func131, Tryz.ntmps131
    go_wp2
    exact bodyPost_ret (v := .agg #[.int .i64 2, .int .i64 0, .string ⟨#[]⟩]) (by simp [results, Tryz.results131, go_sem]) rfl ⟨rfl, (Below.refl _ _).alloc (Nat.le_refl _) _⟩
  · go_enter Tryz.func131, Tryz.ntmps131
    go_wp2
    exact bodyPost_ret (v := .agg #[.int .i64 2, .int .i64 1, .string ⟨#[]⟩]) (by simp [results, Tryz.results131, go_sem]) rfl ⟨rfl, (Below.refl _ _).alloc (Nat.le_refl _) _⟩

set_option maxHeartbeats 400000 in
theorem printable_any (s : ByteArray) (w : World) (hs : s.size ≤ maxLen) :
    Calls Tryz.prog 111 #[.string s] w fun e w' => e = .returned (.bool (okBytes s.data.toList)) ∧ w = w' := by
  unfold maxLen at hs
  go_enter Tryz.func111, Tryz.ntmps111
  go_wp2
  go_loop [3] (fun i => ∃ k : Nat, k ≤ s.size ∧ i = .int .i64 k ∧ okBytes (s.data.toList.take k) = true) (fun i => s.size - (intOf i).toNat)
  case atStart => exact ⟨0, Nat.zero_le _, rfl, rfl⟩
  case round =>
    obtain ⟨k, hk, rfl, hr⟩ := hrel
    have HK := Lib.hid hr
    clear hr
    by_cases hlt : k < s.size
    · have hst := okBytes_snoc (s.data.toList.take k) s[k]
      rw [← take_snoc s k hlt, HK.out] at hst
      have HS := Lib.hid hst
      clear hst
      by_cases hc : okByte s[k] = true
      · obtain ⟨hc1, hc2⟩ := (okByte_iff _).1 hc
        have HC := Lib.hid hc
        clear hc
        go_wp2
        go_round
        case rel => exact ⟨k + 1, by omega, by go_num, by rw [HS.out, HC.out]; rfl⟩
        case measure => simp [intOf]; omega
      · have hc0 : okByte s[k] = false := by simpa using hc
        have HB := Lib.hid (okBytes_bad s k hlt hc0)
        have hcc := (okByte_no _).1 hc0
        clear hc hc0
        go_wp2
        all_goals (first | (exfalso; omega) | (go_ret; exact ⟨ret_bool HB.out.symm, rfl⟩))
    · go_wp2
      go_ret
      have e : okBytes s.data.toList = true := by
        have h2 := HK.out
        rw [List.take_of_length_le (by simp; omega)] at h2
        exact h2
      exact ⟨ret_bool e.symm, rfl⟩

set_option maxHeartbeats 400000 in
theorem Right_any (k n : Int) (s : ByteArray) (w : World) (hs : s.size ≤ maxLen) :
    Calls Tryz.prog 86 #[.agg #[.int .i64 k, .int .i64 n, .string s]] w fun e w' => e = .returned (.bool (okVal k n s.data.toList)) ∧ Below w.heap.size w w' := by
  go_enter Tryz.func86, Tryz.ntmps86
  go_wp2_with (go_at_call 111; refine (printable_any _ _ hs).mono ?_; rintro e w' ⟨rfl, rfl⟩)
  all_goals go_ret
  all_goals (refine ⟨ret_bool (a := _) ?_, al (Below.refl _ _) _⟩; go_light; simp_all [okVal, okText, ByteArray.toList_eq] <;> (intros; omega))
end Go.Proofs.YtapnnheggjahlaaGreatDoor
namespace Go.Proofs.YtapnnheggjahlaaGreatDoor
open Go.RowKit

set_option maxHeartbeats 400000 in
theorem AllRight_any (A : Option Addr) (c : Nat) (l : List V) (w : World) (hr : VReads w w.heap.size A l) (hf : VFit l) (hn : l.length ≤ maxLen) :
    Calls Tryz.prog 85 #[.slice A l.length c] w fun e w' => e = .returned (.bool (l.all V.ok)) ∧ Below w.heap.size w w' := by
  unfold maxLen at hn
  go_enter Tryz.func85, Tryz.ntmps85
  go_wp2
  go_loopw [3] (fun i wr => ∃ k : Nat, k ≤ l.length ∧ i = .int .i64 k ∧ Hid ((l.take k).all V.ok = true) ∧ Below w.heap.size w wr) (fun i _ => l.length - (intOf i).toNat)
  case atStart => exact ⟨0, Nat.zero_le _, rfl, rfl, Below.refl _ _⟩
  case round =>
    obtain ⟨k, hk, rfl, hall, hb⟩ := hrel
    by_cases hlt : k < l.length
    · obtain ⟨b, o, rfl, hblk, c0, c1, c2⟩ := (hr.below hb hb.size).at_ hlt
      have hfk := hf l[k] (List.getElem_mem hlt)
      by_cases hok : okVal l[k].k l[k].n l[k].s.data.toList = true
      · have HN := Lib.hid (all_snoc hlt hall.out hok)
        go_wp2_with (go_at_call 86; refine (Right_any _ _ _ _ hfk).mono ?_; rintro e w1 ⟨rfl, hb1⟩)
        go_roundw
        case rel => exact ⟨k + 1, by omega, by go_num, HN, thn hb hb1⟩
        case measure => simp [intOf]; omega
      · have hok0 : okVal l[k].k l[k].n l[k].s.data.toList = false := by simpa using hok
        have HE : Hid (l.all V.ok = false) := List.all_eq_false.2 ⟨l[k], List.getElem_mem hlt, by unfold V.ok; rw [hok0]; simp⟩
        clear hok
        go_wp2_with (go_at_call 86; refine (Right_any _ _ _ _ hfk).mono ?_; rintro e w1 ⟨rfl, hb1⟩)
        go_ret
        exact ⟨ret_bool HE.out.symm, thn hb hb1⟩
    · go_wp2
      go_ret
      refine ⟨ret_bool ?_, hb⟩
      have h2 := hall.out
      rw [List.take_of_length_le (by omega)] at h2
      exact h2.symm
end Go.Proofs.YtapnnheggjahlaaGreatDoor
