/-
  CONTRACTS: String of any value; the reference's String of a right value.
-/
import Derived.Test.YtmhddoikicapjaaDoorRefQ
import Derived.Test.YtmhddoikicapjaaDoorVal10
namespace Go.Proofs.YtmhddoikicapjaaDoor
open Go.RowKit

theorem strB_text (s : ByteArray) : strB 3 0 s = 39 :: (quote s.data.toList ++ [39]) := by
  unfold strB
  rw [if_neg (by decide), if_pos rfl, all_quote]
set_option maxHeartbeats 400000 in
theorem rString_int (n : Int) (w : World) (hn : I64 n) :
    Calls Tryd.prog 21 #[.agg #[.int .i64 1, .int .i64 n, .string ⟨#[]⟩]] w fun e w' => e = .returned (.string ⟨(strB 1 n ⟨#[]⟩).toArray⟩) ∧ Below w.heap.size w w' := by
  go_enter Tryd.func21, Tryd.ntmps21
  go_wp2_with fail
  refine (rDigits_any (n.natAbs + 1) n _ (by omega) hn.1 hn.2).mono ?_
  rintro e w1 ⟨rfl, hb1⟩
  go_wp2_with fail
  go_ret
  exact ⟨rfl, thn (al (Below.refl _ _) _) hb1⟩
set_option maxHeartbeats 400000 in
theorem rString_word (k n : Int) (x : ByteArray) (w : World) (hk : (k = 0 ∧ n = 0 ∧ x = sNull) ∨ (k = 2 ∧ n = 0 ∧ x = sFalse) ∨ (k = 2 ∧ n = 1 ∧ x = sTrue)) :
    Calls Tryd.prog 21 #[.agg #[.int .i64 k, .int .i64 n, .string ⟨#[]⟩]] w fun e w' => e = .returned (.string x) ∧ Below w.heap.size w w' := by
  rcases hk with ⟨rfl, rfl, rfl⟩ | ⟨rfl, rfl, rfl⟩ | ⟨rfl, rfl, rfl⟩
  all_goals
    go_enter Tryd.func21, Tryd.ntmps21
    go_wp2_with fail
    go_ret
    exact ⟨rfl, al (Below.refl _ _) _⟩
theorem rString_right (k n : Int) (s : ByteArray) (w : World) (h0 : okVal k n s.data.toList = true) (hn : I64 n) :
    Calls Tryd.prog 21 #[.agg #[.int .i64 k, .int .i64 n, .string s]] w fun e w' => e = .returned (.string ⟨(strB k n s).toArray⟩) ∧ Below w.heap.size w w' := by
  rcases ok_cases h0 with ⟨rfl, rfl, rfl⟩ | ⟨rfl, rfl⟩ | ⟨rfl, rfl, rfl⟩ | ⟨rfl, rfl, rfl⟩ | ⟨rfl, rfl, ht⟩
  · exact rString_word _ _ sNull w (.inl ⟨rfl, rfl, rfl⟩)
  · exact rString_int n w hn
  · exact rString_word _ _ sFalse w (.inr (.inl ⟨rfl, rfl, rfl⟩))
  · exact rString_word _ _ sTrue w (.inr (.inr ⟨rfl, rfl, rfl⟩))
  · rw [strB_text]
    exact rString_text 0 s w (by have := okText_size ht; omega)
/-- what String of any value returns -/
def resS (v : V) : ByteArray := if chk [v] = 0 then ⟨(strB v.k v.n v.s).toArray⟩ else ⟨#[]⟩
theorem String_any (k n : Int) (s : ByteArray) (w : World) (hG : G w) (hs : s.size ≤ maxLen) (hn : I64 n) :
    Calls Tryd.prog 11 #[.agg #[.int .i64 k, .int .i64 n, .string s]] w fun e w' => e = .returned (.tuple #[.string (resS ⟨k, n, s⟩), .int .i64 (chk [⟨k, n, s⟩])]) ∧ Below w.heap.size w w' := by
  by_cases h : V.ok ⟨k, n, s⟩ = true
  · have h1 := chk_one_ok h
    have e : resS ⟨k, n, s⟩ = ⟨(strB k n s).toArray⟩ := if_pos h1
    rw [e, h1]
    exact String_right k n s w hG h hn
  · have h1 : chk [⟨k, n, s⟩] ≠ 0 := by rw [chk_one_bad (by simpa using h)]; decide
    have e : resS ⟨k, n, s⟩ = ⟨#[]⟩ := if_neg h1
    rw [e]
    exact String_err k n s w hs h1
end Go.Proofs.YtmhddoikicapjaaDoor
