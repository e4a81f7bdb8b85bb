/-
  CONTRACTS: rows.Both, rows.Minus, rows.Distinct.
-/
import Derived.Test.YtapnnheggjahlaaGreatDoorCho
import Derived.Test.YtapnnheggjahlaaGreatDoorGH
import Derived.WalkLawsBesides
namespace Go.Proofs.YtapnnheggjahlaaGreatDoor
open Go.RowKit

/-- what may come in -/
def InL (L : List (List V)) : Prop := L.length ≤ maxLen ∧ ∀ r ∈ L, r.length ≤ maxLen ∧ ∀ v ∈ r, v.s.size ≤ maxLen ∧ I64 v.n
theorem InL.fit {L : List (List V)} (h : InL L) : LFit L := ⟨h.1, fun r hr => ⟨(h.2 r hr).1, fun v hv => ((h.2 r hr).2 v hv).1⟩⟩
theorem chkR_zero {Ls : List (List (List V))} (h : chkR Ls = 0) : Ls.any bigL = false ∧ Ls.any badL = false := by
  unfold chkR at h
  by_cases h1 : Ls.any bigL = true
  · rw [if_pos h1] at h; cases h
  · rw [if_neg h1] at h
    by_cases h2 : Ls.any badL = true
    · rw [if_pos h2] at h; cases h
    · exact ⟨by simpa using h1, by simpa using h2⟩
theorem fine_of {Ls : List (List (List V))} (h : chkR Ls = 0) {L : List (List V)} (hm : L ∈ Ls) (hi : InL L) : FineL L ∧ L.length ≤ 20000 ∧ ∀ r ∈ L, r.length ≤ 16 := by
  obtain ⟨h1, h2⟩ := chkR_zero h
  rw [List.any_eq_false] at h1 h2
  have h1 := h1 L hm
  have h2 := h2 L hm
  unfold bigL at h1
  simp only [Bool.or_eq_true, decide_eq_true_eq, List.any_eq_true, not_or, not_exists, not_and, Nat.not_lt] at h1
  unfold badL at h2
  simp only [List.any_eq_true, not_exists, not_and, Bool.not_eq_true', Bool.not_eq_false] at h2
  refine ⟨fun r hr => ⟨by have := h1.2 r hr; omega, fun v hv => ⟨h2 r hr v hv, ((hi.2 r hr).2 v hv).2⟩⟩, h1.1, fun r hr => h1.2 r hr⟩
/-- a slice of two lists, in a block of its own -/
theorem LLReads.two {w : World} {g : Nat} {T : TypeId} {A A' : Option Addr} {c c' : Nat} {L L2 : List (List V)} (h : Blk w g T #[.slice A L.length c, .slice A' L2.length c']) (h1 : LReads w w.heap.size A L) (h2 : LReads w w.heap.size A' L2) :
    LLReads w w.heap.size (some ⟨g, 0, none⟩) [L, L2] := fun _ => ⟨g, 0, rfl, h.lt, fun i X hi => by
  match i, hi with
  | 0, hi => simp at hi; subst hi; exact ⟨A, c, h.cell 0, h1⟩
  | 1, hi => simp at hi; subst hi; exact ⟨A', c', h.cell 1, h2⟩
  | i + 2, hi => simp at hi⟩
theorem LLReads.one {w : World} {g : Nat} {T : TypeId} {A : Option Addr} {c : Nat} {L : List (List V)} (h : Blk w g T #[.slice A L.length c]) (h1 : LReads w w.heap.size A L) :
    LLReads w w.heap.size (some ⟨g, 0, none⟩) [L] := fun _ => ⟨g, 0, rfl, h.lt, fun i X hi => by
  match i, hi with
  | 0, hi => simp at hi; subst hi; exact ⟨A, c, h.cell 0, h1⟩
  | i + 1, hi => simp at hi⟩
/-- what comes out: rows of the call's own -/
def OutR (w w' : World) (v : Value) (R : List (List V)) : Prop := ∃ vs, w'.ownsRow w.heap.size 34 1 v R.length vs ∧ OwnRs w' w.heap.size vs R
theorem OutR.up {w W w' : World} {v : Value} {R : List (List V)} (h : OutR W w' v R) (hs : w.heap.size ≤ W.heap.size) : OutR w w' v R := by
  obtain ⟨vs, h1, h2⟩ := h
  exact ⟨vs, own_weaker h1 hs, h2.weaker hs⟩
def fBoth (all : Bool) (a b : Nat) : Nat := if all then min a b else min 1 b
def fMinus (all : Bool) (a b : Nat) : Nat := if all then a - b else 1 - b

theorem fBoth_times (all : Bool) (g : Nat) (T : TypeId) (w : World) (h : Blk w g T #[.bool all]) : IsTimes (fBoth all) (.func (.func 69) #[] #[.pointer (some ⟨g, 0, none⟩)]) w := by
  refine ⟨_, _, rfl, enters_of Tryz.func69 (by kernel_rfl) rfl, fun w1 hb a b ha hb2 => ?_⟩
  have hc := (h.below hb h.lt).cell 0
  have e : (#[(.bool all : Value)])[0]? = some (.bool all) := rfl
  rw [e] at hc
  show Calls _ _ #[.int .i64 (a : Int), .int .i64 (b : Int), .pointer (some ⟨g, 0, none⟩)] _ _
  cases all
  all_goals
    go_enter Tryz.func69, Tryz.ntmps69
    go_wp2
    go_ret
    exact ⟨ret_int (by unfold fBoth; simp <;> omega), Below.refl _ _⟩

theorem fMinus_times (all : Bool) (g : Nat) (T : TypeId) (w : World) (h : Blk w g T #[.bool all]) : IsTimes (fMinus all) (.func (.func 70) #[] #[.pointer (some ⟨g, 0, none⟩)]) w := by
  refine ⟨_, _, rfl, enters_of Tryz.func70 (by kernel_rfl) rfl, fun w1 hb a b ha hb2 => ?_⟩
  have hc := (h.below hb h.lt).cell 0
  have e : (#[(.bool all : Value)])[0]? = some (.bool all) := rfl
  rw [e] at hc
  show Calls _ _ #[.int .i64 (a : Int), .int .i64 (b : Int), .pointer (some ⟨g, 0, none⟩)] _ _
  cases all
  all_goals
    go_enter Tryz.func70, Tryz.ntmps70
    go_wp2
    go_ret
    exact ⟨ret_int (by unfold fMinus; simp <;> omega), Below.refl _ _⟩

set_option maxHeartbeats 1000000 in
theorem Both_ok (A A' : Option Addr) (c c' : Nat) (L L2 : List (List V)) (all : Bool) (w : World) (hG : G w) (hr : LReads w w.heap.size A L) (hr2 : LReads w w.heap.size A' L2) (hi : InL L) (hi2 : InL L2) (h0 : chkR [L, L2] = 0) :
    Calls Tryz.prog 35 #[.slice A L.length c, .slice A' L2.length c', .bool all] w fun e w' => ∃ v, e = .returned (.tuple #[v, .int .i64 0]) ∧ OutR w w' v (chooseR (fun n x => fBoth all n (cnt (rowS x) L2)) L) ∧ Below w.heap.size w w' := by
  have HA := Lib.hid (And.intro hG (And.intro hr (And.intro hr2 (And.intro hi (And.intro hi2 h0)))))
  have he : (chkR [L, L2] != 0) = false := by simp [h0]
  clear hG hr hr2 hi hi2 h0
  go_enter Tryz.func35, Tryz.ntmps35
  go_wp2_with fail
  have q1 := Blk.new (w.alloc (.cells #[.bool all] 4)) 23 #[.slice A L.length c, .slice A' L2.length c']
  have q2 : Below w.heap.size w ((w.alloc (.cells #[.bool all] 4)).alloc (.cells #[.slice A L.length c, .slice A' L2.length c'] 23)) := al (al (Below.refl _ _) _) _
  have q3 := LLReads.two q1 (HA.out.2.1.below q2 q2.size) (HA.out.2.2.1.below q2 q2.size)
  rw [show (w.alloc (.cells #[.bool all] 4)).heap.size = w.heap.size + 1 by simp] at q3
  refine (checkR_any _ _ [L, L2] _ q3 (fun X hX => ?_) (by simp)).mono ?_
  · simp only [List.mem_cons, List.not_mem_nil, or_false] at hX
    rcases hX with rfl | rfl
    · exact HA.out.2.2.2.1.fit
    · exact HA.out.2.2.2.2.1.fit
  rintro e w1 ⟨rfl, hb1⟩
  have W1 := Lib.hid (And.intro (thn q2 hb1) (((Blk.new w 4 #[.bool all]).alloc (.cells #[.slice A L.length c, .slice A' L2.length c'] 23)).below hb1 (by simp; omega)))
  clear q1 q2 q3 hb1
  go_wp2_with fail
  have f1 := fine_of HA.out.2.2.2.2.2 (L := L) (by simp) HA.out.2.2.2.1
  have f2 := fine_of HA.out.2.2.2.2.2 (L := L2) (by simp) HA.out.2.2.2.2.1
  refine (chosen_any A A' c c' L L2 (fBoth all) _ _ (HA.out.1.thn W1.out.1) (HA.out.2.1.below W1.out.1 W1.out.1.size) (HA.out.2.2.1.below W1.out.1 W1.out.1.size) f1.1 f2.1 f1.2.1 f2.2.1 (fBoth_times all w.heap.size _ _ W1.out.2) (fun a b h => by unfold fBoth; split <;> omega)).mono ?_
  rintro e w2 ⟨v, vs, rfl, ho, hrs, hb2⟩
  have HO : Hid (OutR w w2 v (chooseR (fun n x => fBoth all n (cnt (rowS x) L2)) L) ∧ Below w.heap.size w w2) := ⟨OutR.up ⟨vs, ho, hrs⟩ W1.out.1.size, thn W1.out.1 hb2⟩
  obtain ⟨ao, co, rfl⟩ := own_slice ho
  clear ho hrs hb2 f1 f2
  go_wp2_with fail
  go_ret2
  exact ⟨_, rfl, HO.out⟩
set_option maxHeartbeats 1000000 in
theorem Both_err (A A' : Option Addr) (c c' : Nat) (L L2 : List (List V)) (all : Bool) (w : World) (hr : LReads w w.heap.size A L) (hr2 : LReads w w.heap.size A' L2) (hi : InL L) (hi2 : InL L2) (h0 : chkR [L, L2] ≠ 0) :
    Calls Tryz.prog 35 #[.slice A L.length c, .slice A' L2.length c', .bool all] w fun e w' => e = .returned (.tuple #[.slice none 0 0, .int .i64 (chkR [L, L2])]) ∧ Below w.heap.size w w' := by
  have HA := Lib.hid (And.intro hr (And.intro hr2 (And.intro hi hi2)))
  have he : (chkR [L, L2] != 0) = true := by simp [h0]
  clear hr hr2 hi hi2 h0
  go_enter Tryz.func35, Tryz.ntmps35
  go_wp2_with fail
  have q1 := Blk.new (w.alloc (.cells #[.bool all] 4)) 23 #[.slice A L.length c, .slice A' L2.length c']
  have q2 : Below w.heap.size w ((w.alloc (.cells #[.bool all] 4)).alloc (.cells #[.slice A L.length c, .slice A' L2.length c'] 23)) := al (al (Below.refl _ _) _) _
  have q3 := LLReads.two q1 (HA.out.1.below q2 q2.size) (HA.out.2.1.below q2 q2.size)
  rw [show (w.alloc (.cells #[.bool all] 4)).heap.size = w.heap.size + 1 by simp] at q3
  refine (checkR_any _ _ [L, L2] _ q3 (fun X hX => ?_) (by simp)).mono ?_
  · simp only [List.mem_cons, List.not_mem_nil, or_false] at hX
    rcases hX with rfl | rfl
    · exact HA.out.2.2.1.fit
    · exact HA.out.2.2.2.fit
  rintro e w1 ⟨rfl, hb1⟩
  have W1 := Lib.hid (thn q2 hb1)
  clear q1 q2 q3 hb1
  go_wp2_with fail
  go_ret2
  exact ⟨rfl, W1.out⟩

set_option maxHeartbeats 1000000 in
theorem Minus_ok (A A' : Option Addr) (c c' : Nat) (L L2 : List (List V)) (all : Bool) (w : World) (hG : G w) (hr : LReads w w.heap.size A L) (hr2 : LReads w w.heap.size A' L2) (hi : InL L) (hi2 : InL L2) (h0 : chkR [L, L2] = 0) :
    Calls Tryz.prog 36 #[.slice A L.length c, .slice A' L2.length c', .bool all] w fun e w' => ∃ v, e = .returned (.tuple #[v, .int .i64 0]) ∧ OutR w w' v (chooseR (fun n x => fMinus all n (cnt (rowS x) L2)) L) ∧ Below w.heap.size w w' := by
  have HA := Lib.hid (And.intro hG (And.intro hr (And.intro hr2 (And.intro hi (And.intro hi2 h0)))))
  have he : (chkR [L, L2] != 0) = false := by simp [h0]
  clear hG hr hr2 hi hi2 h0
  go_enter Tryz.func36, Tryz.ntmps36
  go_wp2_with fail
  have q1 := Blk.new (w.alloc (.cells #[.bool all] 4)) 23 #[.slice A L.length c, .slice A' L2.length c']
  have q2 : Below w.heap.size w ((w.alloc (.cells #[.bool all] 4)).alloc (.cells #[.slice A L.length c, .slice A' L2.length c'] 23)) := al (al (Below.refl _ _) _) _
  have q3 := LLReads.two q1 (HA.out.2.1.below q2 q2.size) (HA.out.2.2.1.below q2 q2.size)
  rw [show (w.alloc (.cells #[.bool all] 4)).heap.size = w.heap.size + 1 by simp] at q3
  refine (checkR_any _ _ [L, L2] _ q3 (fun X hX => ?_) (by simp)).mono ?_
  · simp only [List.mem_cons, List.not_mem_nil, or_false] at hX
    rcases hX with rfl | rfl
    · exact HA.out.2.2.2.1.fit
    · exact HA.out.2.2.2.2.1.fit
  rintro e w1 ⟨rfl, hb1⟩
  have W1 := Lib.hid (And.intro (thn q2 hb1) (((Blk.new w 4 #[.bool all]).alloc (.cells #[.slice A L.length c, .slice A' L2.length c'] 23)).below hb1 (by simp; omega)))
  clear q1 q2 q3 hb1
  go_wp2_with fail
  have f1 := fine_of HA.out.2.2.2.2.2 (L := L) (by simp) HA.out.2.2.2.1
  have f2 := fine_of HA.out.2.2.2.2.2 (L := L2) (by simp) HA.out.2.2.2.2.1
  refine (chosen_any A A' c c' L L2 (fMinus all) _ _ (HA.out.1.thn W1.out.1) (HA.out.2.1.below W1.out.1 W1.out.1.size) (HA.out.2.2.1.below W1.out.1 W1.out.1.size) f1.1 f2.1 f1.2.1 f2.2.1 (fMinus_times all w.heap.size _ _ W1.out.2) (fun a b h => by unfold fMinus; split <;> omega)).mono ?_
  rintro e w2 ⟨v, vs, rfl, ho, hrs, hb2⟩
  have HO : Hid (OutR w w2 v (chooseR (fun n x => fMinus all n (cnt (rowS x) L2)) L) ∧ Below w.heap.size w w2) := ⟨OutR.up ⟨vs, ho, hrs⟩ W1.out.1.size, thn W1.out.1 hb2⟩
  obtain ⟨ao, co, rfl⟩ := own_slice ho
  clear ho hrs hb2 f1 f2
  go_wp2_with fail
  go_ret2
  exact ⟨_, rfl, HO.out⟩
set_option maxHeartbeats 1000000 in
theorem Minus_err (A A' : Option Addr) (c c' : Nat) (L L2 : List (List V)) (all : Bool) (w : World) (hr : LReads w w.heap.size A L) (hr2 : LReads w w.heap.size A' L2) (hi : InL L) (hi2 : InL L2) (h0 : chkR [L, L2] ≠ 0) :
    Calls Tryz.prog 36 #[.slice A L.length c, .slice A' L2.length c', .bool all] w fun e w' => e = .returned (.tuple #[.slice none 0 0, .int .i64 (chkR [L, L2])]) ∧ Below w.heap.size w w' := by
  have HA := Lib.hid (And.intro hr (And.intro hr2 (And.intro hi hi2)))
  have he : (chkR [L, L2] != 0) = true := by simp [h0]
  clear hr hr2 hi hi2 h0
  go_enter Tryz.func36, Tryz.ntmps36
  go_wp2_with fail
  have q1 := Blk.new (w.alloc (.cells #[.bool all] 4)) 23 #[.slice A L.length c, .slice A' L2.length c']
  have q2 : Below w.heap.size w ((w.alloc (.cells #[.bool all] 4)).alloc (.cells #[.slice A L.length c, .slice A' L2.length c'] 23)) := al (al (Below.refl _ _) _) _
  have q3 := LLReads.two q1 (HA.out.1.below q2 q2.size) (HA.out.2.1.below q2 q2.size)
  rw [show (w.alloc (.cells #[.bool all] 4)).heap.size = w.heap.size + 1 by simp] at q3
  refine (checkR_any _ _ [L, L2] _ q3 (fun X hX => ?_) (by simp)).mono ?_
  · simp only [List.mem_cons, List.not_mem_nil, or_false] at hX
    rcases hX with rfl | rfl
    · exact HA.out.2.2.1.fit
    · exact HA.out.2.2.2.fit
  rintro e w1 ⟨rfl, hb1⟩
  have W1 := Lib.hid (thn q2 hb1)
  clear q1 q2 q3 hb1
  go_wp2_with fail
  go_ret2
  exact ⟨rfl, W1.out⟩
end Go.Proofs.YtapnnheggjahlaaGreatDoor
