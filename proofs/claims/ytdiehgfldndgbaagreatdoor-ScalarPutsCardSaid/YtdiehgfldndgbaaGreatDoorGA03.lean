/-
  Val1: CONTRACTS of package value: isText, isValue.
  Val2: CONTRACTS of package value: check, checkTruth.
  Val3: CONTRACTS of package value: truth, opposite, joined, And, Or, Not.
  Val4: CONTRACTS of package value: joined, And, Or, Not.
  Val5: CONTRACTS of package value: joined with an error, And, Or, Not.
  Val6: CONTRACTS: cmp.isNaN, cmp.Compare at Kind and int64.
  Ref1: CONTRACTS of the reference: Null, Int, Bool, Text, Not, printable, Right, AllRight, List.
  Chk: CONTRACT of package value: Check.
  Val5N: CONTRACTS of package value: Not.
-/
import Derived.Test.YtdiehgfldndgbaaGreatDoorGA02
import Derived.WalkKit
import Derived.WalkSpells
import Derived.WalkLawsBesides
import Derived.Deep.QuietTactic
import Derived.BigQuiet
import Derived.Deep.Light
import Derived.Laws.StructEq
namespace Go.Proofs.YtdiehgfldndgbaaGreatDoor
open Go.RowKit

theorem ret_bool {a b : Bool} (h : a = b) : Ending.returned (.bool a) = .returned (.bool b) := by rw [h]

set_option maxHeartbeats 400000 in
theorem isText_any (s : ByteArray) (w : World) (hs : s.size ≤ maxLen) :
    Calls Tryz.prog 270 #[.string s] w fun e w' => e = .returned (.bool (okText s.data.toList)) ∧ w = w' := by
  unfold maxLen at hs
  by_cases hl : s.size ≤ 200
  · have hsz : decide ((200 : Int) < (s.size : Int)) = false := by simp; omega
    go_enter Tryz.func270, Tryz.ntmps270
    go_wp2
    go_loop [3, 9] (fun _ i => ∃ k : Nat, k ≤ s.size ∧ i = .int .i64 k ∧ okBytes (s.data.toList.take k) = true) (fun _ i => s.size - (intOf i).toNat)
    case atStart => exact ⟨0, Nat.zero_le _, rfl, rfl⟩
    case round =>
      obtain ⟨k, hk, rfl, hr⟩ := hrel
      have HK := Lib.hid hr
      clear hr
      by_cases hlt : k < s.size
      · have hst := okBytes_snoc (s.data.toList.take k) s[k]
        rw [← take_snoc s k hlt, HK.out] at hst
        have HS := Lib.hid hst
        clear hst
        by_cases hc : okByte s[k] = true
        · obtain ⟨hc1, hc2⟩ := (okByte_iff _).1 hc
          have HC := Lib.hid hc
          clear hc
          go_wp2
          go_round
          case rel => exact ⟨k + 1, by omega, by go_num, by rw [HS.out, HC.out]; rfl⟩
          case measure => simp [intOf]; omega
        · have hc0 : okByte s[k] = false := by simpa using hc
          have HB := Lib.hid (okText_bad s k hlt hc0)
          have hcc := (okByte_no _).1 hc0
          clear hc hc0
          go_wp2
          all_goals (first | (exfalso; omega) | (go_ret; exact ⟨ret_bool HB.out.symm, rfl⟩))
      · go_wp2
        go_ret
        have e : okText s.data.toList = true := by
          have h2 := HK.out
          rw [List.take_of_length_le (by simp; omega)] at h2
          unfold okText; rw [h2]; simp; omega
        exact ⟨ret_bool e.symm, rfl⟩
  · have hsz : decide ((200 : Int) < (s.size : Int)) = true := by simp; omega
    have hres : okText s.data.toList = false := by unfold okText; simp; omega
    have HR := Lib.hid hres
    clear hres
    go_enter Tryz.func270, Tryz.ntmps270
    go_wp2
    go_ret
    exact ⟨ret_bool HR.out.symm, rfl⟩

set_option maxHeartbeats 400000 in
theorem isValue_any (k n : Int) (s : ByteArray) (w : World) (hs : s.size ≤ maxLen) :
    Calls Tryz.prog 226 #[.agg #[.int .i64 k, .int .i64 n, .string s]] w fun e w' => e = .returned (.bool (okVal k n s.data.toList)) ∧ Below w.heap.size w w' := by
  go_enter Tryz.func226, Tryz.ntmps226
  go_wp2_with (go_at_call 270; refine (isText_any _ _ hs).mono ?_; rintro e w' ⟨rfl, rfl⟩)
  all_goals go_ret
  all_goals (refine ⟨ret_bool (a := _) ?_, (Below.refl _ _).alloc (Nat.le_refl _) _⟩; go_light; simp_all [okVal, ByteArray.toList_eq])

end Go.Proofs.YtdiehgfldndgbaaGreatDoor
namespace Go.Proofs.YtdiehgfldndgbaaGreatDoor
open Go.RowKit

theorem ret_int {k : IntKind} {a b : Int} (h : a = b) : Ending.returned (.int k a) = .returned (.int k b) := by rw [h]

/-- what check returns -/
def chk (l : List V) : Int := if 20000 < l.length then 2 else if l.all V.ok then 0 else 10
theorem chk_large {l : List V} (h : ¬ l.length ≤ 20000) : chk l = 2 := by unfold chk; rw [if_pos (by omega)]
theorem chk_good {l : List V} (h : l.length ≤ 20000) (ha : l.all V.ok = true) : chk l = 0 := by unfold chk; rw [if_neg (by omega), if_pos ha]
theorem chk_bad {l : List V} (h : l.length ≤ 20000) {k : Nat} (hk : k < l.length) (hb : l[k].ok = false) : chk l = 10 := by
  unfold chk
  rw [if_neg (by omega), if_neg]
  rw [List.all_eq_true]
  intro hh
  have := hh l[k] (List.getElem_mem hk)
  rw [hb] at this; cases this
theorem all_snoc {l : List V} {p : V → Bool} {k : Nat} (hk : k < l.length) (h : (l.take k).all p = true) (hp : p l[k] = true) : (l.take (k + 1)).all p = true := by
  rw [List.take_succ_eq_append_getElem hk, List.all_append, h]; simp [hp]

set_option maxHeartbeats 400000 in
theorem check_any (A : Option Addr) (c : Nat) (l : List V) (w : World) (hr : VReads w w.heap.size A l) (hf : VFit l) (hn : l.length ≤ maxLen) :
    Calls Tryz.prog 155 #[.slice A l.length c] w fun e w' => e = .returned (.int .i64 (chk l)) ∧ Below w.heap.size w w' := by
  unfold maxLen at hn
  by_cases hl : l.length ≤ 20000
  · have hsz : decide ((20000 : Int) < (l.length : Int)) = false := by simp; omega
    go_enter Tryz.func155, Tryz.ntmps155
    go_wp2
    go_loopw [10] (fun i wr => ∃ k : Nat, k ≤ l.length ∧ i = .int .i64 k ∧ Hid ((l.take k).all V.ok = true) ∧ Below w.heap.size w wr) (fun i _ => l.length - (intOf i).toNat)
    case atStart => exact ⟨0, Nat.zero_le _, rfl, rfl, Below.refl _ _⟩
    case round =>
      obtain ⟨k, hk, rfl, hall, hb⟩ := hrel
      by_cases hlt : k < l.length
      · obtain ⟨b, o, rfl, hblk, c0, c1, c2⟩ := (hr.below hb hb.size).at_ hlt
        have hfk := hf l[k] (List.getElem_mem hlt)
        by_cases hok : okVal l[k].k l[k].n l[k].s.data.toList = true
        · have HN := Lib.hid (all_snoc hlt hall.out hok)
          go_wp2_with (go_at_call 226; refine (isValue_any _ _ _ _ hfk).mono ?_; rintro e w1 ⟨rfl, hb1⟩)
          go_roundw
          case rel => exact ⟨k + 1, by omega, by go_num, HN, (hb.alloc hb.size _).trans (hb1.mono (by simp; have := hb.size; omega))⟩
          case measure => simp [intOf]; omega
        · have hok0 : okVal l[k].k l[k].n l[k].s.data.toList = false := by simpa using hok
          have HE := Lib.hid (chk_bad hl hlt hok0)
          clear hok
          go_wp2_with (go_at_call 226; refine (isValue_any _ _ _ _ hfk).mono ?_; rintro e w1 ⟨rfl, hb1⟩)
          go_ret
          exact ⟨ret_int HE.out.symm, (hb.alloc hb.size _).trans (hb1.mono (by simp; have := hb.size; omega))⟩
      · go_wp2
        go_ret
        refine ⟨ret_int (chk_good hl ?_).symm, hb⟩
        have h2 := hall.out
        rw [List.take_of_length_le (by omega)] at h2
        exact h2
  · have hsz : decide ((20000 : Int) < (l.length : Int)) = true := by simp; omega
    have HR := Lib.hid (chk_large hl)
    go_enter Tryz.func155, Tryz.ntmps155
    go_wp2
    go_ret
    exact ⟨ret_int HR.out.symm, Below.refl _ _⟩

def V.tr (v : V) : Bool := v.k == 2 || v.k == 0
/-- what checkTruth returns -/
def chkT (l : List V) : Int := if chk l = 0 then (if l.all V.tr then 0 else 1) else chk l
theorem chkT_err {l : List V} (h : chk l ≠ 0) : chkT l = chk l := by unfold chkT; rw [if_neg h]
theorem chkT_good {l : List V} (h : chk l = 0) (ha : l.all V.tr = true) : chkT l = 0 := by unfold chkT; rw [if_pos h, if_pos ha]
theorem chkT_bad {l : List V} (h : chk l = 0) {k : Nat} (hk : k < l.length) (hb : l[k].tr = false) : chkT l = 1 := by
  unfold chkT
  rw [if_pos h, if_neg]
  rw [List.all_eq_true]
  intro hh
  have := hh l[k] (List.getElem_mem hk)
  rw [hb] at this; cases this

set_option maxHeartbeats 400000 in
theorem checkTruth_any (A : Option Addr) (c : Nat) (l : List V) (w : World) (hr : VReads w w.heap.size A l) (hf : VFit l) (hn : l.length ≤ maxLen) :
    Calls Tryz.prog 276 #[.slice A l.length c] w fun e w' => e = .returned (.int .i64 (chkT l)) ∧ Below w.heap.size w w' := by
  have hn' := hn
  unfold maxLen at hn
  by_cases hl : chk l = 0
  · have HL := Lib.hid hl
    have hce : (chk l != 0) = false := by simp [hl]
    clear hl
    go_enter Tryz.func276, Tryz.ntmps276
    go_wp2_with (go_at_call 155; refine (check_any _ _ l _ hr hf hn').mono ?_; rintro e w1 ⟨rfl, hb1⟩)
    go_loopw [13] (fun i wr => ∃ k : Nat, k ≤ l.length ∧ i = .int .i64 k ∧ Hid ((l.take k).all V.tr = true) ∧ Below w.heap.size w wr) (fun i _ => l.length - (intOf i).toNat)
    case atStart => exact ⟨0, Nat.zero_le _, rfl, rfl, hb1⟩
    case round =>
      obtain ⟨k, hk, rfl, hall, hb⟩ := hrel
      by_cases hlt : k < l.length
      · obtain ⟨b, o, rfl, hblk, c0, c1, c2⟩ := (hr.below hb hb.size).at_ hlt
        by_cases h2 : l[k].k = 2
        · have HN := Lib.hid (all_snoc hlt hall.out (p := V.tr) (by unfold V.tr; simp [h2]))
          have e2 : (l[k].k != 2) = false := by simp [h2]
          clear h2
          go_wp2_with fail
          go_roundw
          case rel => exact ⟨k + 1, by omega, by go_num, HN, hb.alloc hb.size _⟩
          case measure => simp [intOf]; omega
        · by_cases h0 : l[k].k = 0
          · have HN := Lib.hid (all_snoc hlt hall.out (p := V.tr) (by unfold V.tr; simp [h0]))
            have e2 : (l[k].k != 2) = true := by simp [h2]
            have e0 : (l[k].k != 0) = false := by simp [h0]
            clear h2 h0
            go_wp2_with fail
            go_roundw
            case rel => exact ⟨k + 1, by omega, by go_num, HN, hb.alloc hb.size _⟩
            case measure => simp [intOf]; omega
          · have HB := Lib.hid (chkT_bad HL.out hlt (by unfold V.tr; simp [h0, h2]))
            have e2 : (l[k].k != 2) = true := by simp [h2]
            have e0 : (l[k].k != 0) = true := by simp [h0]
            clear h2 h0
            go_wp2_with fail
            go_ret
            exact ⟨ret_int HB.out.symm, hb.alloc hb.size _⟩
      · go_wp2_with fail
        go_ret
        refine ⟨ret_int (chkT_good HL.out ?_).symm, hb⟩
        have h2 := hall.out
        rw [List.take_of_length_le (by omega)] at h2
        exact h2
  · have HR := Lib.hid (chkT_err hl)
    have hce : (chk l != 0) = true := by simp [hl]
    clear hl
    go_enter Tryz.func276, Tryz.ntmps276
    go_wp2_with (go_at_call 155; refine (check_any _ _ l _ hr hf hn').mono ?_; rintro e w1 ⟨rfl, hb1⟩)
    go_ret
    exact ⟨ret_int HR.out.symm, hb1⟩
end Go.Proofs.YtdiehgfldndgbaaGreatDoor
namespace Go.Proofs.YtdiehgfldndgbaaGreatDoor
open Go.RowKit

def b2i (b : Bool) : Int := if b then 1 else 0
set_option maxHeartbeats 400000 in
theorem truth_any (x : Bool) (w : World) :
    Calls Tryz.prog 239 #[.bool x] w fun e w' => e = .returned (.agg #[.int .i64 2, .int .i64 (b2i x), .string ⟨#[]⟩]) ∧ Below w.heap.size w w' := by
  cases x
  · go_enter Tryz.func239, Tryz.ntmps239
    go_wp2
    exact bodyPost_ret (v := .agg #[.int .i64 2, .int .i64 0, .string ⟨#[]⟩]) (by simp [results, Tryz.results239, go_sem]) rfl ⟨rfl, (Below.refl _ _).alloc (Nat.le_refl _) _⟩
  · go_enter Tryz.func239, Tryz.ntmps239
    go_wp2
    exact bodyPost_ret (v := .agg #[.int .i64 2, .int .i64 1, .string ⟨#[]⟩]) (by simp [results, Tryz.results239, go_sem]) rfl ⟨rfl, (Below.refl _ _).alloc (Nat.le_refl _) _⟩

set_option maxHeartbeats 400000 in
theorem opposite_bool (n : Int) (s : ByteArray) (w : World) :
    Calls Tryz.prog 277 #[.agg #[.int .i64 2, .int .i64 n, .string s]] w fun e w' => e = .returned (.agg #[.int .i64 2, .int .i64 (b2i (n == 0)), .string ⟨#[]⟩]) ∧ Below w.heap.size w w' := by
  go_enter Tryz.func277, Tryz.ntmps277
  go_wp2_with (go_at_call 239; refine (truth_any _ _).mono ?_; rintro e w1 ⟨rfl, hb1⟩; obtain ⟨⟨k0, k1, k2⟩, f0, f1, f2⟩ := ((Blk.new' (g := w.heap.size + 1) (by simp)).below hb1 (by simp)).three)
  exact bodyPost_ret (v := .agg #[.int .i64 2, .int .i64 (b2i (n == 0)), .string ⟨#[]⟩]) (by simp [results, Tryz.results277, go_sem, k0, k1, k2]) rfl
    ⟨rfl, st3 (thn (al (al (Below.refl _ _) _) _) hb1) (by simp) _ _ _⟩

/-- two values are the same -/
def veq (a b : Int) (s : ByteArray) (a' b' : Int) (s' : ByteArray) : Bool := a == a' && (b == b' && s.toList == s'.toList)
theorem eqV (a b : Int) (s : ByteArray) (a' b' : Int) (s' : ByteArray) (w : World) :
    (binOp .eql 27 (.agg #[.int .i64 a, .int .i64 b, .string s]) (.agg #[.int .i64 a', .int .i64 b', .string s'])).run Tryz.prog w = .ok (.bool (veq a b s a' b' s')) w := by
  have hS : Tryz.prog.underlying 27 = some (.struct (Tryz.prog.fieldsOf 27)) := by kernel_rfl
  have hp : Tryz.prog.stoodInHeld 27 = false := by kernel_rfl
  rw [run_eql_struct, show (10000 : Nat) = 9999 + 1 from rfl, run_equalIn_agg w 9999 27 _ _ hS hp]
  simp only [Program.fieldsOf, Tryz.underlying27]
  go_simp
  unfold veq
  by_cases h1 : a = a' <;> by_cases h2 : b = b' <;> by_cases h3 : s.toList = s'.toList <;> simp [h1, h2, h3]
end Go.Proofs.YtdiehgfldndgbaaGreatDoor
namespace Go.Proofs.YtdiehgfldndgbaaGreatDoor
open Go.RowKit

def V.isE (x : Bool) (v : V) : Bool := veq v.k v.n v.s 2 (b2i x) ⟨#[]⟩
def V.isN (v : V) : Bool := v.k == 0
/-- what joined returns of right truths -/
def joinV (x : Bool) (l : List V) : V :=
  if l.any (V.isE x) then ⟨2, b2i x, ⟨#[]⟩⟩ else if l.any V.isN then ⟨0, 0, ⟨#[]⟩⟩ else ⟨2, b2i (!x), ⟨#[]⟩⟩

theorem chkT_zero {l : List V} (h : chkT l = 0) : l.length ≤ 20000 ∧ l.all V.ok = true ∧ l.all V.tr = true := by
  unfold chkT chk at h
  by_cases h1 : 20000 < l.length
  · rw [if_pos h1] at h; simp at h
  · rw [if_neg h1] at h
    by_cases h2 : l.all V.ok = true
    · rw [if_pos h2] at h
      by_cases h3 : l.all V.tr = true
      · exact ⟨by omega, h2, h3⟩
      · simp [h3] at h
    · rw [if_neg h2] at h; simp at h
theorem null_of_ok {v : V} (h : v.ok = true) (hk : v.k = 0) : v = ⟨0, 0, ⟨#[]⟩⟩ := by
  obtain ⟨k, n, ⟨⟨s⟩⟩⟩ := v
  simp only at hk
  subst hk
  simp [V.ok, okVal] at h
  obtain ⟨rfl, rfl⟩ := h
  rfl
theorem joinV_enough {x : Bool} {l : List V} {k : Nat} (hk : k < l.length) (h : V.isE x l[k] = true) : joinV x l = ⟨2, b2i x, ⟨#[]⟩⟩ := by
  unfold joinV
  rw [if_pos]
  exact List.any_eq_true.2 ⟨_, List.getElem_mem hk, h⟩
theorem any_snoc {l : List V} {p : V → Bool} {k : Nat} (hk : k < l.length) : (l.take (k + 1)).any p = ((l.take k).any p || p l[k]) := by
  rw [List.take_succ_eq_append_getElem hk, List.any_append]; simp

/-- what holds at the loop's head in joined: k values are done, none of them is the one that is enough; the three variables' blocks -/
def JInv (x : Bool) (done : List V) (ge gr go : Nat) (w wr : World) (T : TypeId) : Prop :=
  done.any (V.isE x) = false ∧ Below w.heap.size w wr ∧ go < wr.heap.size ∧ Blk wr ge T #[.int .i64 2, .int .i64 (b2i x), .string ⟨#[]⟩] ∧
  (∃ a b c, Blk wr gr T #[a, b, c]) ∧ ∃ o : V, Blk wr go T #[.int .i64 o.k, .int .i64 o.n, .string o.s] ∧ o = if done.any V.isN then ⟨0, 0, ⟨#[]⟩⟩ else ⟨2, b2i (!x), ⟨#[]⟩⟩

set_option maxHeartbeats 400000 in
theorem joined_any (x : Bool) (A : Option Addr) (c : Nat) (l : List V) (w : World) (hr : VReads w w.heap.size A l) (hf : VFit l) (hn : l.length ≤ maxLen) (h0 : chkT l = 0) :
    Calls Tryz.prog 238 #[.agg #[.int .i64 2, .int .i64 (b2i x), .string ⟨#[]⟩], .slice A l.length c] w fun e w' => e = .returned (.tuple #[(joinV x l).val, .int .i64 0]) ∧ Below w.heap.size w w' := by
  have hn' := hn
  unfold maxLen at hn
  have H0 := Lib.hid h0
  have he : (chkT l != 0) = false := by simp [h0]
  have heq := @eqV
  clear h0
  go_enter Tryz.func238, Tryz.ntmps238
  go_wp2_with fail
  refine (checkTruth_any _ _ l _ (hr.below (al (al (Below.refl _ _) _) _) (by simp <;> omega)) hf hn').mono ?_
  rintro e w1 ⟨rfl, hb1⟩
  have B1 := ((Blk.new' (w := w) (t := 27) (cs := #[.int .i64 2, .int .i64 (b2i x), .string ⟨#[]⟩]) rfl).alloc _).below hb1 (by simp <;> omega)
  obtain ⟨⟨k0, k1, k2⟩, f0, f1, f2⟩ := B1.three
  go_wp2_with fail
  refine (opposite_bool _ _ _).mono ?_
  rintro e w2 ⟨rfl, hb2⟩
  go_wp2_with fail
  have hz1 := hb1.size
  simp at hz1
  have hz2 := hb2.size
  have B2 := (B1.below hb2 (by omega)).alloc (.cells #[.int .i64 2, .int .i64 (b2i (b2i x == 0)), .string ⟨#[]⟩] 27)
  have R2 := (((Blk.new' (w := w.alloc (.cells #[.int .i64 2, .int .i64 (b2i x), .string ⟨#[]⟩] 27)) (g := w.heap.size + 1) (t := 27) (cs := #[.int .i64 0, .int .i64 0, .string ⟨#[]⟩]) (by simp)).below hb1 (by simp <;> omega)).below hb2 (by omega)).alloc (.cells #[.int .i64 2, .int .i64 (b2i (b2i x == 0)), .string ⟨#[]⟩] 27)
  have O2 := Blk.new' (w := w2) (g := w2.heap.size) (t := 27) (cs := #[.int .i64 2, .int .i64 (b2i (b2i x == 0)), .string ⟨#[]⟩]) rfl
  have W2 := al (thn (thn (al (al (Below.refl _ w) _) _) hb1) hb2) (.cells #[.int .i64 2, .int .i64 (b2i (b2i x == 0)), .string ⟨#[]⟩] 27)
  clear k0 k1 k2 f0 f1 f2
  go_loopw [20] (fun i wr => ∃ k : Nat, k ≤ l.length ∧ i = .int .i64 k ∧ Hid (JInv x (l.take k) w.heap.size (w.heap.size + 1) w2.heap.size w wr 27)) (fun i _ => l.length - (intOf i).toNat)
  case atStart => exact ⟨0, Nat.zero_le _, rfl, rfl, W2, by simp, B2, ⟨_, _, _, R2⟩, ⟨2, b2i (b2i x == 0), ⟨#[]⟩⟩, O2, by cases x <;> rfl⟩
  case round =>
    obtain ⟨k, hk, rfl, HI⟩ := hrel
    obtain ⟨hno, hb, hgo, BE, ⟨ra, rb, rc, BR⟩, o, BO, ho⟩ := HI.out
    have HNo := Lib.hid hno
    have HO := Lib.hid ho
    clear hno ho HI B2 R2 O2 W2 B1
    have hz := hb.size
    have hge := BE.lt
    have hgr := BR.lt
    obtain ⟨⟨ce0, ce1, ce2⟩, fe0, fe1, fe2⟩ := BE.three
    obtain ⟨⟨co0, co1, co2⟩, fo0, fo1, fo2⟩ := BO.three
    obtain ⟨⟨cr0, cr1, cr2⟩, fr0, fr1, fr2⟩ := BR.three
    have hne1 : w2.heap.size ≠ w.heap.size := by omega
    have hne2 : w2.heap.size ≠ w.heap.size + 1 := by omega
    by_cases hlt : k < l.length
    · obtain ⟨b, p, rfl, hblk, c0, c1, c2⟩ := (hr.below hb hb.size).at_ hlt
      by_cases hE : veq l[k].k l[k].n l[k].s 2 (b2i x) ⟨#[]⟩ = true
      · have HE := Lib.hid (joinV_enough hlt hE)
        go_wp2_with fail
        refine bodyPost_ret (v := .tuple #[.agg #[.int .i64 2, .int .i64 (b2i x), .string ⟨#[]⟩], .int .i64 0]) (by simp [results, Tryz.results238, go_sem, cr0, cr1, cr2, hgr]) rfl ⟨?_, al (st3 hb (by omega) _ _ _) _⟩
        rw [HE.out]; rfl
      · have hE0 : veq l[k].k l[k].n l[k].s 2 (b2i x) ⟨#[]⟩ = false := by simpa using hE
        have HN : Hid ((l.take (k + 1)).any (V.isE x) = false) := by rw [any_snoc hlt, HNo.out]; exact hE0
        clear hE
        by_cases h0 : l[k].k = 0
        · have HV := Lib.hid (null_of_ok (List.all_eq_true.1 (chkT_zero H0.out).2.1 l[k] (List.getElem_mem hlt)) h0)
          have hk0 : (l[k].k == 0) = true := by simp [h0]
          have HA : Hid ((l.take (k + 1)).any V.isN = true) := by rw [any_snoc hlt]; unfold V.isN; rw [hk0, Bool.or_true]; trivial
          clear h0
          go_wp2_with fail
          go_roundw
          case rel => exact ⟨k + 1, by omega, by go_num, HN.out, al (st3 hb (by omega) _ _ _) _, by simp <;> omega, (BE.far3 (by omega) _ _ _).alloc _, ⟨_, _, _, (BR.far3 (by omega) _ _ _).alloc _⟩, l[k], (BO.three_set _ _ _).alloc _, by rw [if_pos HA.out]; exact HV.out⟩
          case measure => simp [intOf]; omega
        · have hk0 : (l[k].k == 0) = false := by simp [h0]
          have HA : Hid ((l.take (k + 1)).any V.isN = (l.take k).any V.isN) := by rw [any_snoc hlt]; unfold V.isN; rw [hk0, Bool.or_false]; trivial
          clear h0
          go_wp2_with fail
          go_roundw
          case rel => exact ⟨k + 1, by omega, by go_num, HN.out, al hb _, by simp <;> omega, BE.alloc _, ⟨_, _, _, BR.alloc _⟩, o, BO.alloc _, by rw [HA.out]; exact HO.out⟩
          case measure => simp [intOf]; omega
    · have HJ : Hid (joinV x l = o) := by
        have h1 := HNo.out
        have h2 := HO.out
        rw [List.take_of_length_le (by omega)] at h1 h2
        unfold joinV
        rw [h1, h2]; rfl
      go_wp2_with fail
      refine bodyPost_ret (v := .tuple #[.agg #[.int .i64 o.k, .int .i64 o.n, .string o.s], .int .i64 0]) (by simp [results, Tryz.results238, go_sem, cr0, cr1, cr2]) rfl ⟨?_, st3 hb (by omega) _ _ _⟩
      rw [HJ.out]; rfl
end Go.Proofs.YtdiehgfldndgbaaGreatDoor
namespace Go.Proofs.YtdiehgfldndgbaaGreatDoor
open Go.RowKit

set_option maxHeartbeats 400000 in
theorem And_ok (A : Option Addr) (c : Nat) (l : List V) (w : World) (hr : VReads w w.heap.size A l) (hf : VFit l) (hn : l.length ≤ maxLen) (h0 : chkT l = 0) :
    Calls Tryz.prog 189 #[.slice A l.length c] w fun e w' => e = .returned (.tuple #[.agg #[.int .i64 (joinV false l).k, .int .i64 (joinV false l).n, .string (joinV false l).s], .int .i64 0]) ∧ Below w.heap.size w w' := by
  have H0 := Lib.hid h0
  clear h0
  go_enter Tryz.func189, Tryz.ntmps189
  go_wp2_with fail
  refine (truth_any _ _).mono ?_
  rintro e w1 ⟨rfl, hb1⟩
  go_wp2_with fail
  refine (joined_any false _ _ l _ (hr.below (thn (al (Below.refl _ _) _) hb1) (by have := hb1.size; simp at this; omega)) hf hn H0.out).mono ?_
  rintro e w2 ⟨rfl, hb2⟩
  have hz1 := hb1.size
  simp at hz1
  have R1 := ((Blk.new' (w := w) (g := w.heap.size) (t := 27) (cs := #[.int .i64 0, .int .i64 0, .string ⟨#[]⟩]) rfl).below hb1 (by simp)).below hb2 (by omega)
  obtain ⟨⟨k0, k1, k2⟩, f0, f1, f2⟩ := R1.three
  unfold V.val
  go_wp2_with fail
  refine bodyPost_ret (v := .tuple #[.agg #[.int .i64 (joinV false l).k, .int .i64 (joinV false l).n, .string (joinV false l).s], .int .i64 0]) (by simp [results, Tryz.results189, go_sem, k0, k1, k2]) rfl ⟨rfl, st3 (thn (thn (al (Below.refl _ _) _) hb1) hb2) (by omega) _ _ _⟩
set_option maxHeartbeats 400000 in
theorem Or_ok (A : Option Addr) (c : Nat) (l : List V) (w : World) (hr : VReads w w.heap.size A l) (hf : VFit l) (hn : l.length ≤ maxLen) (h0 : chkT l = 0) :
    Calls Tryz.prog 190 #[.slice A l.length c] w fun e w' => e = .returned (.tuple #[.agg #[.int .i64 (joinV true l).k, .int .i64 (joinV true l).n, .string (joinV true l).s], .int .i64 0]) ∧ Below w.heap.size w w' := by
  have H0 := Lib.hid h0
  clear h0
  go_enter Tryz.func190, Tryz.ntmps190
  go_wp2_with fail
  refine (truth_any _ _).mono ?_
  rintro e w1 ⟨rfl, hb1⟩
  go_wp2_with fail
  refine (joined_any true _ _ l _ (hr.below (thn (al (Below.refl _ _) _) hb1) (by have := hb1.size; simp at this; omega)) hf hn H0.out).mono ?_
  rintro e w2 ⟨rfl, hb2⟩
  have hz1 := hb1.size
  simp at hz1
  have R1 := ((Blk.new' (w := w) (g := w.heap.size) (t := 27) (cs := #[.int .i64 0, .int .i64 0, .string ⟨#[]⟩]) rfl).below hb1 (by simp)).below hb2 (by omega)
  obtain ⟨⟨k0, k1, k2⟩, f0, f1, f2⟩ := R1.three
  unfold V.val
  go_wp2_with fail
  refine bodyPost_ret (v := .tuple #[.agg #[.int .i64 (joinV true l).k, .int .i64 (joinV true l).n, .string (joinV true l).s], .int .i64 0]) (by simp [results, Tryz.results190, go_sem, k0, k1, k2]) rfl ⟨rfl, st3 (thn (thn (al (Below.refl _ _) _) hb1) hb2) (by omega) _ _ _⟩
/-- a slice that is just this one value, in a block of its own -/
theorem VReads.one {w : World} {g B : Nat} {T : TypeId} {a b : Int} {s : ByteArray} (h : Blk w g T #[.int .i64 a, .int .i64 b, .string s]) (hg : g < B) : VReads w B (some ⟨g, 0, none⟩) [⟨a, b, s⟩] := fun _ => by
  obtain ⟨⟨k0, k1, k2⟩, _⟩ := h.three
  refine ⟨g, 0, rfl, hg, fun i v hi => ?_⟩
  cases i with
  | zero => simp at hi; subst hi; exact ⟨k0, k1, k2⟩
  | succ i => simp at hi
theorem VFit.one {v : V} (h : v.s.size ≤ maxLen) : VFit [v] := fun u hu => by simp at hu; subst hu; exact h

end Go.Proofs.YtdiehgfldndgbaaGreatDoor
namespace Go.Proofs.YtdiehgfldndgbaaGreatDoor
open Go.RowKit

def cmpI (a b : Int) : Int := if a < b then -1 else if b < a then 1 else 0
theorem cmpI_lt {a b : Int} (h : a < b) : cmpI a b = -1 := by unfold cmpI; rw [if_pos h]
theorem cmpI_gt {a b : Int} (h : b < a) : cmpI a b = 1 := by unfold cmpI; rw [if_neg (by omega), if_pos h]
theorem cmpI_eq {a b : Int} (h : a = b) : cmpI a b = 0 := by unfold cmpI; rw [if_neg (by omega), if_neg (by omega)]

theorem isNaN_kind (a : Int) (w : World) : Calls Tryz.prog 305 #[.int .i64 a] w fun e w' => e = .returned (.bool false) ∧ w = w' := by
  go_enter Tryz.func305, Tryz.ntmps305
  go_wp2
  go_ret
  exact ⟨rfl, rfl⟩
set_option maxHeartbeats 400000 in
theorem compare_kind (a b : Int) (w : World) : Calls Tryz.prog 293 #[.int .i64 a, .int .i64 b] w fun e w' => e = .returned (.int .i64 (cmpI a b)) ∧ w = w' := by
  by_cases h1 : a < b
  · have HR := Lib.hid (cmpI_lt h1)
    go_enter Tryz.func293, Tryz.ntmps293
    go_wp2_with (go_at_call 305; refine (isNaN_kind _ _).mono ?_; rintro e w1 ⟨rfl, rfl⟩)
    go_ret
    exact ⟨ret_int HR.out.symm, rfl⟩
  · by_cases h2 : b < a
    · have HR := Lib.hid (cmpI_gt h2)
      go_enter Tryz.func293, Tryz.ntmps293
      go_wp2_with (go_at_call 305; refine (isNaN_kind _ _).mono ?_; rintro e w1 ⟨rfl, rfl⟩)
      go_ret
      exact ⟨ret_int HR.out.symm, rfl⟩
    · have HR := Lib.hid (cmpI_eq (a := a) (b := b) (by omega))
      go_enter Tryz.func293, Tryz.ntmps293
      go_wp2_with (go_at_call 305; refine (isNaN_kind _ _).mono ?_; rintro e w1 ⟨rfl, rfl⟩)
      go_ret
      exact ⟨ret_int HR.out.symm, rfl⟩
theorem isNaN_i64 (a : Int) (w : World) : Calls Tryz.prog 306 #[.int .i64 a] w fun e w' => e = .returned (.bool false) ∧ w = w' := by
  go_enter Tryz.func306, Tryz.ntmps306
  go_wp2
  go_ret
  exact ⟨rfl, rfl⟩
set_option maxHeartbeats 400000 in
theorem compare_i64 (a b : Int) (w : World) : Calls Tryz.prog 294 #[.int .i64 a, .int .i64 b] w fun e w' => e = .returned (.int .i64 (cmpI a b)) ∧ w = w' := by
  by_cases h1 : a < b
  · have HR := Lib.hid (cmpI_lt h1)
    go_enter Tryz.func294, Tryz.ntmps294
    go_wp2_with (go_at_call 306; refine (isNaN_i64 _ _).mono ?_; rintro e w1 ⟨rfl, rfl⟩)
    go_ret
    exact ⟨ret_int HR.out.symm, rfl⟩
  · by_cases h2 : b < a
    · have HR := Lib.hid (cmpI_gt h2)
      go_enter Tryz.func294, Tryz.ntmps294
      go_wp2_with (go_at_call 306; refine (isNaN_i64 _ _).mono ?_; rintro e w1 ⟨rfl, rfl⟩)
      go_ret
      exact ⟨ret_int HR.out.symm, rfl⟩
    · have HR := Lib.hid (cmpI_eq (a := a) (b := b) (by omega))
      go_enter Tryz.func294, Tryz.ntmps294
      go_wp2_with (go_at_call 306; refine (isNaN_i64 _ _).mono ?_; rintro e w1 ⟨rfl, rfl⟩)
      go_ret
      exact ⟨ret_int HR.out.symm, rfl⟩
end Go.Proofs.YtdiehgfldndgbaaGreatDoor
namespace Go.Proofs.YtdiehgfldndgbaaGreatDoor
open Go.RowKit

set_option maxHeartbeats 400000 in
theorem rNull_any (w : World) :
    Calls Tryz.prog 55 #[] w fun e w' => e = .returned (.agg #[.int .i64 0, .int .i64 0, .string ⟨#[]⟩]) ∧ Below w.heap.size w w' := by
  go_enter Tryz.func55, Tryz.ntmps55
  go_wp2
  exact bodyPost_ret (v := .agg #[.int .i64 0, .int .i64 0, .string ⟨#[]⟩]) (by simp [results, Tryz.results55, go_sem]) rfl ⟨rfl, al (Below.refl _ _) _⟩
set_option maxHeartbeats 400000 in
theorem rInt_any (n : Int) (w : World) :
    Calls Tryz.prog 52 #[.int .i64 n] w fun e w' => e = .returned (.agg #[.int .i64 1, .int .i64 n, .string ⟨#[]⟩]) ∧ Below w.heap.size w w' := by
  go_enter Tryz.func52, Tryz.ntmps52
  go_wp2
  exact bodyPost_ret (v := .agg #[.int .i64 1, .int .i64 n, .string ⟨#[]⟩]) (by simp [results, Tryz.results52, go_sem]) rfl ⟨rfl, al (Below.refl _ _) _⟩
set_option maxHeartbeats 400000 in
theorem rBool_any (x : Bool) (w : World) :
    Calls Tryz.prog 56 #[.bool x] w fun e w' => e = .returned (.agg #[.int .i64 2, .int .i64 (b2i x), .string ⟨#[]⟩]) ∧ Below w.heap.size w w' := by
  cases x
  · go_enter Tryz.func56, Tryz.ntmps56
    go_wp2
    exact bodyPost_ret (v := .agg #[.int .i64 2, .int .i64 0, .string ⟨#[]⟩]) (by simp [results, Tryz.results56, go_sem]) rfl ⟨rfl, (Below.refl _ _).alloc (Nat.le_refl _) _⟩
  · go_enter Tryz.func56, Tryz.ntmps56
    go_wp2
    exact bodyPost_ret (v := .agg #[.int .i64 2, .int .i64 1, .string ⟨#[]⟩]) (by simp [results, Tryz.results56, go_sem]) rfl ⟨rfl, (Below.refl _ _).alloc (Nat.le_refl _) _⟩

set_option maxHeartbeats 400000 in
theorem printable_any (s : ByteArray) (w : World) (hs : s.size ≤ maxLen) :
    Calls Tryz.prog 132 #[.string s] w fun e w' => e = .returned (.bool (okBytes s.data.toList)) ∧ w = w' := by
  unfold maxLen at hs
  go_enter Tryz.func132, Tryz.ntmps132
  go_wp2
  go_loop [3] (fun i => ∃ k : Nat, k ≤ s.size ∧ i = .int .i64 k ∧ okBytes (s.data.toList.take k) = true) (fun i => s.size - (intOf i).toNat)
  case atStart => exact ⟨0, Nat.zero_le _, rfl, rfl⟩
  case round =>
    obtain ⟨k, hk, rfl, hr⟩ := hrel
    have HK := Lib.hid hr
    clear hr
    by_cases hlt : k < s.size
    · have hst := okBytes_snoc (s.data.toList.take k) s[k]
      rw [← take_snoc s k hlt, HK.out] at hst
      have HS := Lib.hid hst
      clear hst
      by_cases hc : okByte s[k] = true
      · obtain ⟨hc1, hc2⟩ := (okByte_iff _).1 hc
        have HC := Lib.hid hc
        clear hc
        go_wp2
        go_round
        case rel => exact ⟨k + 1, by omega, by go_num, by rw [HS.out, HC.out]; rfl⟩
        case measure => simp [intOf]; omega
      · have hc0 : okByte s[k] = false := by simpa using hc
        have HB := Lib.hid (okBytes_bad s k hlt hc0)
        have hcc := (okByte_no _).1 hc0
        clear hc hc0
        go_wp2
        all_goals (first | (exfalso; omega) | (go_ret; exact ⟨ret_bool HB.out.symm, rfl⟩))
    · go_wp2
      go_ret
      have e : okBytes s.data.toList = true := by
        have h2 := HK.out
        rw [List.take_of_length_le (by simp; omega)] at h2
        exact h2
      exact ⟨ret_bool e.symm, rfl⟩

set_option maxHeartbeats 400000 in
theorem Right_any (k n : Int) (s : ByteArray) (w : World) (hs : s.size ≤ maxLen) :
    Calls Tryz.prog 82 #[.agg #[.int .i64 k, .int .i64 n, .string s]] w fun e w' => e = .returned (.bool (okVal k n s.data.toList)) ∧ Below w.heap.size w w' := by
  go_enter Tryz.func82, Tryz.ntmps82
  go_wp2_with (go_at_call 132; refine (printable_any _ _ hs).mono ?_; rintro e w' ⟨rfl, rfl⟩)
  all_goals go_ret
  all_goals (refine ⟨ret_bool (a := _) ?_, al (Below.refl _ _) _⟩; go_light; simp_all [okVal, okText, ByteArray.toList_eq] <;> (intros; omega))
end Go.Proofs.YtdiehgfldndgbaaGreatDoor
namespace Go.Proofs.YtdiehgfldndgbaaGreatDoor
open Go.RowKit

set_option maxHeartbeats 400000 in
theorem Check_any (k n : Int) (s : ByteArray) (w : World) (hs : s.size ≤ maxLen) :
    Calls Tryz.prog 230 #[.agg #[.int .i64 k, .int .i64 n, .string s]] w fun e w' => e = .returned (.int .i64 (chk [⟨k, n, s⟩])) ∧ Below w.heap.size w w' := by
  go_enter Tryz.func230, Tryz.ntmps230
  go_wp2_with fail
  refine (check_any _ _ [⟨k, n, s⟩] _ (VReads.one (Blk.new' (g := w.heap.size + 1) (by simp)) (by simp)) (VFit.one hs) (by simp [maxLen])).mono ?_
  rintro e w1 ⟨rfl, hb1⟩
  go_wp2_with fail
  go_ret
  exact ⟨rfl, thn (al (al (Below.refl _ w) _) _) hb1⟩
end Go.Proofs.YtdiehgfldndgbaaGreatDoor
namespace Go.Proofs.YtdiehgfldndgbaaGreatDoor
open Go.RowKit

/-- what Not returns of a right truth -/
def notV (v : V) : V := if v.k = 0 then v else ⟨2, b2i (v.n == 0), ⟨#[]⟩⟩

end Go.Proofs.YtdiehgfldndgbaaGreatDoor
