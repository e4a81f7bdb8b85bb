/-
  CONTRACTS put together: And, Or, Not whatever the arguments; the reference's Not; value.Check; '!=' of two values.
-/
import Derived.Test.YtmbakenfbdbapaaDoorReg
import Derived.Test.YtmbakenfbdbapaaDoorRef2
namespace Go.Proofs.YtmbakenfbdbapaaDoor
open Go.RowKit

/-- what And (x false), Or (x true) return -/
def resJ (x : Bool) (l : List V) : V := if chkT l = 0 then joinV x l else zV
/-- what Not returns -/
def resN (v : V) : V := if chkT [v] = 0 then notV v else zV

theorem And_any (A : Option Addr) (c : Nat) (l : List V) (w : World) (hr : VReads w w.heap.size A l) (hf : VFit l) (hn : l.length ≤ maxLen) :
    Calls Tryd.prog 19 #[.slice A l.length c] w fun e w' => e = .returned (.tuple #[.agg #[.int .i64 (resJ false l).k, .int .i64 (resJ false l).n, .string (resJ false l).s], .int .i64 (chkT l)]) ∧ Below w.heap.size w w' := by
  by_cases h : chkT l = 0
  · have e1 : resJ false l = joinV false l := if_pos h
    rw [e1, h]
    exact And_ok A c l w hr hf hn h
  · have e1 : resJ false l = zV := if_neg h
    rw [e1]
    exact And_err A c l w hr hf hn h
theorem Or_any (A : Option Addr) (c : Nat) (l : List V) (w : World) (hr : VReads w w.heap.size A l) (hf : VFit l) (hn : l.length ≤ maxLen) :
    Calls Tryd.prog 20 #[.slice A l.length c] w fun e w' => e = .returned (.tuple #[.agg #[.int .i64 (resJ true l).k, .int .i64 (resJ true l).n, .string (resJ true l).s], .int .i64 (chkT l)]) ∧ Below w.heap.size w w' := by
  by_cases h : chkT l = 0
  · have e1 : resJ true l = joinV true l := if_pos h
    rw [e1, h]
    exact Or_ok A c l w hr hf hn h
  · have e1 : resJ true l = zV := if_neg h
    rw [e1]
    exact Or_err A c l w hr hf hn h
theorem tr_cases {k n : Int} {s : ByteArray} (h : chkT [⟨k, n, s⟩] = 0) : k = 0 ∨ k = 2 := by
  have := (chkT_zero h).2.2
  simp [V.tr] at this
  omega
theorem Not_any (k n : Int) (s : ByteArray) (w : World) (hs : s.size ≤ maxLen) :
    Calls Tryd.prog 21 #[.agg #[.int .i64 k, .int .i64 n, .string s]] w fun e w' => e = .returned (.tuple #[.agg #[.int .i64 (resN ⟨k, n, s⟩).k, .int .i64 (resN ⟨k, n, s⟩).n, .string (resN ⟨k, n, s⟩).s], .int .i64 (chkT [⟨k, n, s⟩])]) ∧ Below w.heap.size w w' := by
  by_cases h : chkT [⟨k, n, s⟩] = 0
  · have e1 : resN ⟨k, n, s⟩ = notV ⟨k, n, s⟩ := if_pos h
    rw [e1, h]
    rcases tr_cases h with rfl | rfl
    · exact Not_null n s w hs h
    · exact Not_bool n s w hs h
  · have e1 : resN ⟨k, n, s⟩ = zV := if_neg h
    rw [e1]
    exact Not_err k n s w hs h
theorem rNot_any (k n : Int) (s : ByteArray) (w : World) (h : chkT [⟨k, n, s⟩] = 0) :
    Calls Tryd.prog 23 #[.agg #[.int .i64 k, .int .i64 n, .string s]] w fun e w' => e = .returned (.agg #[.int .i64 (resN ⟨k, n, s⟩).k, .int .i64 (resN ⟨k, n, s⟩).n, .string (resN ⟨k, n, s⟩).s]) ∧ Below w.heap.size w w' := by
  have e1 : resN ⟨k, n, s⟩ = notV ⟨k, n, s⟩ := if_pos h
  rw [e1]
  rcases tr_cases h with rfl | rfl
  · exact rNot_null n s w
  · exact rNot_bool n s w

/-- where the values are right truths, the reference's And and Or return what joined does -/
theorem ref_join (x : Bool) {l : List V} (h : chkT l = 0) : refJ x l = resJ x l := by
  have e1 : resJ x l = joinV x l := if_pos h
  rw [e1]
  have hok := (chkT_zero h).2.1
  unfold refJ joinV
  have e2 : someV l 2 (b2i x) ⟨#[]⟩ = l.any (V.isE x) := rfl
  have e3 : someV l 0 0 ⟨#[]⟩ = l.any V.isN := by
    unfold someV
    rw [Bool.eq_iff_iff, List.any_eq_true, List.any_eq_true]
    constructor
    · rintro ⟨v, hv, he⟩
      refine ⟨v, hv, ?_⟩
      have := veq_iff.1 he
      unfold V.isN
      have hk : v.k = 0 := by
        have := congrArg V.k this
        exact this
      simp [hk]
    · rintro ⟨v, hv, he⟩
      refine ⟨v, hv, ?_⟩
      unfold V.isN at he
      have hk : v.k = 0 := by simpa using he
      have := null_of_ok (List.all_eq_true.1 hok v hv) hk
      rw [this]
      exact veq_self _ _ _
  rw [e2, e3]

theorem rAnd_res (A : Option Addr) (c : Nat) (l : List V) (w : World) (hr : VReads w w.heap.size A l) (hn : l.length ≤ maxLen) (h0 : chkT l = 0) :
    Calls Tryd.prog 24 #[.slice A l.length c] w fun e w' => e = .returned (.agg #[.int .i64 (resJ false l).k, .int .i64 (resJ false l).n, .string (resJ false l).s]) ∧ Below w.heap.size w w' := by
  rw [← ref_join false h0]; exact rAnd_any A c l w hr hn
theorem rOr_res (A : Option Addr) (c : Nat) (l : List V) (w : World) (hr : VReads w w.heap.size A l) (hn : l.length ≤ maxLen) (h0 : chkT l = 0) :
    Calls Tryd.prog 25 #[.slice A l.length c] w fun e w' => e = .returned (.agg #[.int .i64 (resJ true l).k, .int .i64 (resJ true l).n, .string (resJ true l).s]) ∧ Below w.heap.size w w' := by
  rw [← ref_join true h0]; exact rOr_any A c l w hr hn

end Go.Proofs.YtmbakenfbdbapaaDoor
