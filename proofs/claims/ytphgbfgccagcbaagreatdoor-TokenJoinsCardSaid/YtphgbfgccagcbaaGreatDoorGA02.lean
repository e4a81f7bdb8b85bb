/-
  Val1: CONTRACTS of package value: isText, isValue.
  Val2: CONTRACTS of package value: check, checkTruth.
  Val3: CONTRACTS of package value: truth, opposite, joined, And, Or, Not.
  Val4: CONTRACTS of package value: joined, And, Or, Not.
  Val5: CONTRACTS of package value: joined with an error, And, Or, Not.
  Ref1: CONTRACTS of the reference: Null, Int, Bool, Text, Not, printable, Right, AllRight, List.
-/
import Derived.Test.YtphgbfgccagcbaaGreatDoorGA01
import Derived.WalkKit
import Derived.WalkSpells
import Derived.WalkLawsBesides
import Derived.Deep.QuietTactic
import Derived.BigQuiet
import Derived.Deep.Light
import Derived.Laws.StructEq
namespace Go.Proofs.YtphgbfgccagcbaaGreatDoor
open Go.RowKit

theorem ret_bool {a b : Bool} (h : a = b) : Ending.returned (.bool a) = .returned (.bool b) := by rw [h]

set_option maxHeartbeats 400000 in
theorem isText_any (s : ByteArray) (w : World) (hs : s.size ≤ maxLen) :
    Calls Tryz.prog 147 #[.string s] w fun e w' => e = .returned (.bool (okText s.data.toList)) ∧ w = w' := by
  unfold maxLen at hs
  by_cases hl : s.size ≤ 200
  · have hsz : decide ((200 : Int) < (s.size : Int)) = false := by simp; omega
    go_enter Tryz.func147, Tryz.ntmps147
    go_wp2
    go_loop [3, 9] (fun _ i => ∃ k : Nat, k ≤ s.size ∧ i = .int .i64 k ∧ okBytes (s.data.toList.take k) = true) (fun _ i => s.size - (intOf i).toNat)
    case atStart => exact ⟨0, Nat.zero_le _, rfl, rfl⟩
    case round =>
      obtain ⟨k, hk, rfl, hr⟩ := hrel
      have HK := Lib.hid hr
      clear hr
      by_cases hlt : k < s.size
      · have hst := okBytes_snoc (s.data.toList.take k) s[k]
        rw [← take_snoc s k hlt, HK.out] at hst
        have HS := Lib.hid hst
        clear hst
        by_cases hc : okByte s[k] = true
        · obtain ⟨hc1, hc2⟩ := (okByte_iff _).1 hc
          have HC := Lib.hid hc
          clear hc
          go_wp2
          go_round
          case rel => exact ⟨k + 1, by omega, by go_num, by rw [HS.out, HC.out]; rfl⟩
          case measure => simp [intOf]; omega
        · have hc0 : okByte s[k] = false := by simpa using hc
          have HB := Lib.hid (okText_bad s k hlt hc0)
          have hcc := (okByte_no _).1 hc0
          clear hc hc0
          go_wp2
          all_goals (first | (exfalso; omega) | (go_ret; exact ⟨ret_bool HB.out.symm, rfl⟩))
      · go_wp2
        go_ret
        have e : okText s.data.toList = true := by
          have h2 := HK.out
          rw [List.take_of_length_le (by simp; omega)] at h2
          unfold okText; rw [h2]; simp; omega
        exact ⟨ret_bool e.symm, rfl⟩
  · have hsz : decide ((200 : Int) < (s.size : Int)) = true := by simp; omega
    have hres : okText s.data.toList = false := by unfold okText; simp; omega
    have HR := Lib.hid hres
    clear hres
    go_enter Tryz.func147, Tryz.ntmps147
    go_wp2
    go_ret
    exact ⟨ret_bool HR.out.symm, rfl⟩

set_option maxHeartbeats 400000 in
theorem isValue_any (k n : Int) (s : ByteArray) (w : World) (hs : s.size ≤ maxLen) :
    Calls Tryz.prog 134 #[.agg #[.int .i64 k, .int .i64 n, .string s]] w fun e w' => e = .returned (.bool (okVal k n s.data.toList)) ∧ Below w.heap.size w w' := by
  go_enter Tryz.func134, Tryz.ntmps134
  go_wp2_with (go_at_call 147; refine (isText_any _ _ hs).mono ?_; rintro e w' ⟨rfl, rfl⟩)
  all_goals go_ret
  all_goals (refine ⟨ret_bool (a := _) ?_, (Below.refl _ _).alloc (Nat.le_refl _) _⟩; go_light; simp_all [okVal, ByteArray.toList_eq])

end Go.Proofs.YtphgbfgccagcbaaGreatDoor
namespace Go.Proofs.YtphgbfgccagcbaaGreatDoor
open Go.RowKit

theorem ret_int {k : IntKind} {a b : Int} (h : a = b) : Ending.returned (.int k a) = .returned (.int k b) := by rw [h]

/-- what check returns -/
def chk (l : List V) : Int := if 20000 < l.length then 2 else if l.all V.ok then 0 else 10
theorem chk_large {l : List V} (h : ¬ l.length ≤ 20000) : chk l = 2 := by unfold chk; rw [if_pos (by omega)]
theorem chk_good {l : List V} (h : l.length ≤ 20000) (ha : l.all V.ok = true) : chk l = 0 := by unfold chk; rw [if_neg (by omega), if_pos ha]
theorem chk_bad {l : List V} (h : l.length ≤ 20000) {k : Nat} (hk : k < l.length) (hb : l[k].ok = false) : chk l = 10 := by
  unfold chk
  rw [if_neg (by omega), if_neg]
  rw [List.all_eq_true]
  intro hh
  have := hh l[k] (List.getElem_mem hk)
  rw [hb] at this; cases this
theorem all_snoc {l : List V} {p : V → Bool} {k : Nat} (hk : k < l.length) (h : (l.take k).all p = true) (hp : p l[k] = true) : (l.take (k + 1)).all p = true := by
  rw [List.take_succ_eq_append_getElem hk, List.all_append, h]; simp [hp]

set_option maxHeartbeats 400000 in
theorem check_any (A : Option Addr) (c : Nat) (l : List V) (w : World) (hr : VReads w w.heap.size A l) (hf : VFit l) (hn : l.length ≤ maxLen) :
    Calls Tryz.prog 121 #[.slice A l.length c] w fun e w' => e = .returned (.int .i64 (chk l)) ∧ Below w.heap.size w w' := by
  unfold maxLen at hn
  by_cases hl : l.length ≤ 20000
  · have hsz : decide ((20000 : Int) < (l.length : Int)) = false := by simp; omega
    go_enter Tryz.func121, Tryz.ntmps121
    go_wp2
    go_loopw [10] (fun i wr => ∃ k : Nat, k ≤ l.length ∧ i = .int .i64 k ∧ Hid ((l.take k).all V.ok = true) ∧ Below w.heap.size w wr) (fun i _ => l.length - (intOf i).toNat)
    case atStart => exact ⟨0, Nat.zero_le _, rfl, rfl, Below.refl _ _⟩
    case round =>
      obtain ⟨k, hk, rfl, hall, hb⟩ := hrel
      by_cases hlt : k < l.length
      · obtain ⟨b, o, rfl, hblk, c0, c1, c2⟩ := (hr.below hb hb.size).at_ hlt
        have hfk := hf l[k] (List.getElem_mem hlt)
        by_cases hok : okVal l[k].k l[k].n l[k].s.data.toList = true
        · have HN := Lib.hid (all_snoc hlt hall.out hok)
          go_wp2_with (go_at_call 134; refine (isValue_any _ _ _ _ hfk).mono ?_; rintro e w1 ⟨rfl, hb1⟩)
          go_roundw
          case rel => exact ⟨k + 1, by omega, by go_num, HN, (hb.alloc hb.size _).trans (hb1.mono (by simp; have := hb.size; omega))⟩
          case measure => simp [intOf]; omega
        · have hok0 : okVal l[k].k l[k].n l[k].s.data.toList = false := by simpa using hok
          have HE := Lib.hid (chk_bad hl hlt hok0)
          clear hok
          go_wp2_with (go_at_call 134; refine (isValue_any _ _ _ _ hfk).mono ?_; rintro e w1 ⟨rfl, hb1⟩)
          go_ret
          exact ⟨ret_int HE.out.symm, (hb.alloc hb.size _).trans (hb1.mono (by simp; have := hb.size; omega))⟩
      · go_wp2
        go_ret
        refine ⟨ret_int (chk_good hl ?_).symm, hb⟩
        have h2 := hall.out
        rw [List.take_of_length_le (by omega)] at h2
        exact h2
  · have hsz : decide ((20000 : Int) < (l.length : Int)) = true := by simp; omega
    have HR := Lib.hid (chk_large hl)
    go_enter Tryz.func121, Tryz.ntmps121
    go_wp2
    go_ret
    exact ⟨ret_int HR.out.symm, Below.refl _ _⟩

end Go.Proofs.YtphgbfgccagcbaaGreatDoor
namespace Go.Proofs.YtphgbfgccagcbaaGreatDoor
open Go.RowKit

def b2i (b : Bool) : Int := if b then 1 else 0
end Go.Proofs.YtphgbfgccagcbaaGreatDoor
namespace Go.Proofs.YtphgbfgccagcbaaGreatDoor
open Go.RowKit

def V.isN (v : V) : Bool := v.k == 0
end Go.Proofs.YtphgbfgccagcbaaGreatDoor
namespace Go.Proofs.YtphgbfgccagcbaaGreatDoor
open Go.RowKit

/-- a slice that is just this one value, in a block of its own -/
theorem VReads.one {w : World} {g B : Nat} {T : TypeId} {a b : Int} {s : ByteArray} (h : Blk w g T #[.int .i64 a, .int .i64 b, .string s]) (hg : g < B) : VReads w B (some ⟨g, 0, none⟩) [⟨a, b, s⟩] := fun _ => by
  obtain ⟨⟨k0, k1, k2⟩, _⟩ := h.three
  refine ⟨g, 0, rfl, hg, fun i v hi => ?_⟩
  cases i with
  | zero => simp at hi; subst hi; exact ⟨k0, k1, k2⟩
  | succ i => simp at hi
theorem VFit.one {v : V} (h : v.s.size ≤ maxLen) : VFit [v] := fun u hu => by simp at hu; subst hu; exact h

end Go.Proofs.YtphgbfgccagcbaaGreatDoor
namespace Go.Proofs.YtphgbfgccagcbaaGreatDoor
open Go.RowKit

set_option maxHeartbeats 400000 in
theorem rInt_any (n : Int) (w : World) :
    Calls Tryz.prog 58 #[.int .i64 n] w fun e w' => e = .returned (.agg #[.int .i64 1, .int .i64 n, .string ⟨#[]⟩]) ∧ Below w.heap.size w w' := by
  go_enter Tryz.func58, Tryz.ntmps58
  go_wp2
  exact bodyPost_ret (v := .agg #[.int .i64 1, .int .i64 n, .string ⟨#[]⟩]) (by simp [results, Tryz.results58, go_sem]) rfl ⟨rfl, al (Below.refl _ _) _⟩
set_option maxHeartbeats 400000 in
theorem rText_any (s : ByteArray) (w : World) :
    Calls Tryz.prog 55 #[.string s] w fun e w' => e = .returned (.agg #[.int .i64 3, .int .i64 0, .string s]) ∧ Below w.heap.size w w' := by
  go_enter Tryz.func55, Tryz.ntmps55
  go_wp2
  exact bodyPost_ret (v := .agg #[.int .i64 3, .int .i64 0, .string s]) (by simp [results, Tryz.results55, go_sem]) rfl ⟨rfl, al (Below.refl _ _) _⟩
set_option maxHeartbeats 400000 in
theorem rBool_any (x : Bool) (w : World) :
    Calls Tryz.prog 54 #[.bool x] w fun e w' => e = .returned (.agg #[.int .i64 2, .int .i64 (b2i x), .string ⟨#[]⟩]) ∧ Below w.heap.size w w' := by
  cases x
  · go_enter Tryz.func54, Tryz.ntmps54
    go_wp2
    exact bodyPost_ret (v := .agg #[.int .i64 2, .int .i64 0, .string ⟨#[]⟩]) (by simp [results, Tryz.results54, go_sem]) rfl ⟨rfl, (Below.refl _ _).alloc (Nat.le_refl _) _⟩
  · go_enter Tryz.func54, Tryz.ntmps54
    go_wp2
    exact bodyPost_ret (v := .agg #[.int .i64 2, .int .i64 1, .string ⟨#[]⟩]) (by simp [results, Tryz.results54, go_sem]) rfl ⟨rfl, (Below.refl _ _).alloc (Nat.le_refl _) _⟩

set_option maxHeartbeats 400000 in
theorem printable_any (s : ByteArray) (w : World) (hs : s.size ≤ maxLen) :
    Calls Tryz.prog 79 #[.string s] w fun e w' => e = .returned (.bool (okBytes s.data.toList)) ∧ w = w' := by
  unfold maxLen at hs
  go_enter Tryz.func79, Tryz.ntmps79
  go_wp2
  go_loop [3] (fun i => ∃ k : Nat, k ≤ s.size ∧ i = .int .i64 k ∧ okBytes (s.data.toList.take k) = true) (fun i => s.size - (intOf i).toNat)
  case atStart => exact ⟨0, Nat.zero_le _, rfl, rfl⟩
  case round =>
    obtain ⟨k, hk, rfl, hr⟩ := hrel
    have HK := Lib.hid hr
    clear hr
    by_cases hlt : k < s.size
    · have hst := okBytes_snoc (s.data.toList.take k) s[k]
      rw [← take_snoc s k hlt, HK.out] at hst
      have HS := Lib.hid hst
      clear hst
      by_cases hc : okByte s[k] = true
      · obtain ⟨hc1, hc2⟩ := (okByte_iff _).1 hc
        have HC := Lib.hid hc
        clear hc
        go_wp2
        go_round
        case rel => exact ⟨k + 1, by omega, by go_num, by rw [HS.out, HC.out]; rfl⟩
        case measure => simp [intOf]; omega
      · have hc0 : okByte s[k] = false := by simpa using hc
        have HB := Lib.hid (okBytes_bad s k hlt hc0)
        have hcc := (okByte_no _).1 hc0
        clear hc hc0
        go_wp2
        all_goals (first | (exfalso; omega) | (go_ret; exact ⟨ret_bool HB.out.symm, rfl⟩))
    · go_wp2
      go_ret
      have e : okBytes s.data.toList = true := by
        have h2 := HK.out
        rw [List.take_of_length_le (by simp; omega)] at h2
        exact h2
      exact ⟨ret_bool e.symm, rfl⟩

set_option maxHeartbeats 400000 in
theorem Right_any (k n : Int) (s : ByteArray) (w : World) (hs : s.size ≤ maxLen) :
    Calls Tryz.prog 56 #[.agg #[.int .i64 k, .int .i64 n, .string s]] w fun e w' => e = .returned (.bool (okVal k n s.data.toList)) ∧ Below w.heap.size w w' := by
  go_enter Tryz.func56, Tryz.ntmps56
  go_wp2_with (go_at_call 79; refine (printable_any _ _ hs).mono ?_; rintro e w' ⟨rfl, rfl⟩)
  all_goals go_ret
  all_goals (refine ⟨ret_bool (a := _) ?_, al (Below.refl _ _) _⟩; go_light; simp_all [okVal, okText, ByteArray.toList_eq] <;> (intros; omega))
end Go.Proofs.YtphgbfgccagcbaaGreatDoor
