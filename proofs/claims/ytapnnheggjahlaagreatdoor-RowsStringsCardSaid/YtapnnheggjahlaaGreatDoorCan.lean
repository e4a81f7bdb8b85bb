/-
  CONTRACTS: rows.Canonical, rows.Compare; Canonical of the reference.
-/
import Derived.Test.YtapnnheggjahlaaGreatDoorRfO
namespace Go.Proofs.YtapnnheggjahlaaGreatDoor
open Go.RowKit

theorem cmpKR_nil2 : cmpKR [] = cmpR := cmpKR_nil
theorem RCanonical_any (A : Option Addr) (c : Nat) (l : List (List V)) (w : World) (hr : LReads w w.heap.size A l) (hf : ∀ r ∈ l, r.length ≤ 1000000 ∧ VFit r) (hc : l.length ≤ c) (hn : l.length ≤ 1000000) :
    Calls Tryz.prog 28 #[.slice A l.length c] w fun e w' => ∃ A' c', e = .returned (.slice A' l.length c') ∧ LReads w' w'.heap.size A' (canon l) ∧ Below w.heap.size w w' := by
  have HC := Lib.hid (ROrdered_any [] none 0 (by simp) (l.length + 1) A c l w (by omega) hr (fun h => by simp [kI] at h) (fun r h => ⟨(hf r h).1, (hf r h).2, fun k hk => by cases hk⟩) hc hn)
  clear hr hf hc hn
  go_enter Tryz.func28, Tryz.ntmps28
  go_wp2_with fail
  refine HC.out.mono ?_
  rintro e w1 ⟨A1, c1, rfl, hl, hb⟩
  have W1 := Lib.hid (And.intro hl hb)
  clear hl hb
  go_wp2_with fail
  go_ret
  have := W1.out.1
  rw [cmpKR_nil2] at this
  exact ⟨A1, c1, rfl, this, W1.out.2⟩

theorem sorted_Ords (w : World) (g : Nat) (T : TypeId) (h : Blk w g T #[.func (.func 61) #[] #[]]) : Ords (fun r => OkR r ∧ r.length ≤ maxLen) w (.slice (some ⟨g, 0, none⟩) 1 1) [cmpR] :=
  ⟨_, 0, 1, rfl, h.lt, fun j hj => by
    match j, hj with
    | 0, _ => exact ⟨_, h.cell 0, compare_isOrd _⟩⟩
set_option maxHeartbeats 1000000 in
theorem Canonical_ok (A : Option Addr) (c : Nat) (L : List (List V)) (w : World) (hr : LReads w w.heap.size A L) (hi : InL L) (h0 : chkR [L] = 0) :
    Calls Tryz.prog 25 #[.slice A L.length c] w fun e w' => ∃ g vs, e = .returned (.tuple #[.slice (some ⟨g, 0, none⟩) L.length L.length, .int .i64 0]) ∧ w.heap.size ≤ g ∧ Blk w' g 34 vs.toArray ∧ OwnRs w' w.heap.size vs (canon L) ∧ Below w.heap.size w w' := by
  have f1 := fine_of h0 (L := L) (by simp) hi
  have HA := Lib.hid (And.intro hr (And.intro f1 (And.intro (InL.okR f1.1 f1.2.2) hi)))
  have he : (chkR [L] != 0) = false := by simp [h0]
  clear hr hi h0 f1
  go_enter Tryz.func25, Tryz.ntmps25
  go_wp2_with fail
  have q1 := Blk.new w 23 #[.slice A L.length c]
  have q2 : Below w.heap.size w (w.alloc (.cells #[.slice A L.length c] 23)) := al (Below.refl _ _) _
  have q3 := LLReads.one q1 (HA.out.1.below q2 q2.size)
  refine (checkR_any _ _ [L] _ q3 (fun X hX => ?_) (by simp)).mono ?_
  · simp only [List.mem_cons, List.not_mem_nil, or_false] at hX
    subst hX
    exact HA.out.2.2.2.fit
  rintro e w1 ⟨rfl, hb1⟩
  have W1 := Lib.hid (thn q2 hb1)
  clear q1 q2 q3 hb1
  go_wp2_with fail
  obtain ⟨f1, hok, -⟩ := HA.out.2
  have b1 : Below w1.heap.size w1 (w1.alloc (.cells #[.func (.func 61) #[] #[]] 100)) := al (Below.refl _ _) _
  refine (sorted_any (fun r => OkR r ∧ r.length ≤ maxLen) [cmpR] (by rw [ordC_one]; exact cmpR_WO) (fun a b h => by rw [ordC_one] at h; exact cmpR_eq a b h) (by simp) A c L _ _ (HA.out.1.below (thn W1.out b1) (thn W1.out b1).size) hok (fun r h => by have := f1.2.2 r h; omega) f1.2.1 (sorted_Ords _ _ _ (Blk.new w1 _ _)) (fun _ => show OkR [] ∧ ([] : List V).length ≤ maxLen from ⟨fun v hv => absurd hv (by simp), Nat.zero_le _⟩)).mono ?_
  rintro e w3 ⟨g, vs, rfl, hg, hb, hrs, hb3⟩
  have HO := Lib.hid (And.intro hg (And.intro hb (And.intro hrs (thn (thn W1.out b1) hb3))))
  have HS := Lib.hid (thn W1.out b1).size
  clear hg hb hrs hb3 b1 f1 hok
  go_wp2_with fail
  go_ret2
  obtain ⟨o1, o2, o3, o4⟩ := HO.out
  refine ⟨g, vs, rfl, Nat.le_trans HS.out o1, o2, ?_, o4⟩
  rw [ordC_one] at o3
  exact o3.weaker HS.out
set_option maxHeartbeats 1000000 in
theorem Canonical_err (A : Option Addr) (c : Nat) (L : List (List V)) (w : World) (hr : LReads w w.heap.size A L) (hi : InL L) (h0 : chkR [L] ≠ 0) :
    Calls Tryz.prog 25 #[.slice A L.length c] w fun e w' => e = .returned (.tuple #[.slice none 0 0, .int .i64 (chkR [L])]) ∧ Below w.heap.size w w' := by
  have HA := Lib.hid (And.intro hr hi)
  have he : (chkR [L] != 0) = true := by simp [h0]
  clear hr hi h0
  go_enter Tryz.func25, Tryz.ntmps25
  go_wp2_with fail
  have q1 := Blk.new w 23 #[.slice A L.length c]
  have q2 : Below w.heap.size w (w.alloc (.cells #[.slice A L.length c] 23)) := al (Below.refl _ _) _
  have q3 := LLReads.one q1 (HA.out.1.below q2 q2.size)
  refine (checkR_any _ _ [L] _ q3 (fun X hX => ?_) (by simp)).mono ?_
  · simp only [List.mem_cons, List.not_mem_nil, or_false] at hX
    subst hX
    exact HA.out.2.fit
  rintro e w1 ⟨rfl, hb1⟩
  have W1 := Lib.hid (thn q2 hb1)
  clear q1 q2 q3 hb1
  go_wp2_with fail
  go_ret2
  exact ⟨rfl, W1.out⟩

theorem rows_two {w : World} {g : Nat} {T : TypeId} {A A' : Option Addr} {c c' : Nat} {a b : List V} (h : Blk w g T #[.slice A a.length c, .slice A' b.length c']) (hA : Plain A) (hA' : Plain A') (h1 : VReads w w.heap.size A a) (h2 : VReads w w.heap.size A' b) :
    LReads w w.heap.size (some ⟨g, 0, none⟩) [a, b] := fun _ => ⟨g, 0, rfl, h.lt, fun i r hi => by
  match i, hi with
  | 0, hi => cases hi; exact ⟨A, c, h.cell 0, hA, h1⟩
  | 1, hi => cases hi; exact ⟨A', c', h.cell 1, hA', h2⟩
  | i + 2, hi => simp at hi⟩
set_option maxHeartbeats 1000000 in
theorem RowsCompare_ok (A A' : Option Addr) (c c' : Nat) (a b : List V) (w : World) (hA : Plain A) (hA' : Plain A') (hr : VReads w w.heap.size A a) (hr2 : VReads w w.heap.size A' b) (hi : InL [a, b]) (h0 : chkR [[a, b]] = 0) :
    Calls Tryz.prog 24 #[.slice A a.length c, .slice A' b.length c'] w fun e w' => e = .returned (.tuple #[.int .i64 (cmpR a b), .int .i64 0]) ∧ Below w.heap.size w w' := by
  have f1 := fine_of h0 (L := [a, b]) (by simp) hi
  have hok := InL.okR f1.1 f1.2.2
  have HA := Lib.hid (And.intro hr (And.intro hr2 (And.intro (hok a (by simp)) (And.intro (hok b (by simp)) (And.intro hi (And.intro hA hA'))))))
  have he : (chkR [[a, b]] != 0) = false := by simp [h0]
  clear hr hr2 hi h0 f1 hok hA hA'
  go_enter Tryz.func24, Tryz.ntmps24
  go_wp2_with fail
  have p1 := Blk.new w 34 #[.slice A a.length c, .slice A' b.length c']
  have p2 : Below w.heap.size w (w.alloc (.cells #[.slice A a.length c, .slice A' b.length c'] 34)) := al (Below.refl _ _) _
  have p3 := rows_two p1 HA.out.2.2.2.2.2.1 HA.out.2.2.2.2.2.2 (HA.out.1.below p2 p2.size) (HA.out.2.1.below p2 p2.size)
  have q1 := Blk.new (w.alloc (.cells #[.slice A a.length c, .slice A' b.length c'] 34)) 23 #[.slice (some ⟨w.heap.size, 0, none⟩) [a, b].length 2]
  have q2 := al p2 (.cells #[.slice (some ⟨w.heap.size, 0, none⟩) [a, b].length 2] 23)
  have q3 := LLReads.one q1 (p3.below (al (Below.refl _ _) _) (al (Below.refl _ _) _).size)
  rw [show (w.alloc (.cells #[.slice A a.length c, .slice A' b.length c'] 34)).heap.size = w.heap.size + 1 by simp] at q3
  refine (checkR_any _ _ [[a, b]] _ q3 (fun X hX => ?_) (by simp)).mono ?_
  · simp only [List.mem_cons, List.not_mem_nil, or_false] at hX
    subst hX
    exact HA.out.2.2.2.2.1.fit
  rintro e w1 ⟨rfl, hb1⟩
  have W1 := Lib.hid (thn q2 hb1)
  clear p1 p2 p3 q1 q2 q3 hb1
  go_wp2_with fail
  refine (cmpRows_lay A A' c c' a b w1 (HA.out.1.below W1.out W1.out.size) (HA.out.2.1.below W1.out W1.out.size) HA.out.2.2.1.1 HA.out.2.2.2.1.1 HA.out.2.2.1.2 HA.out.2.2.2.1.2).mono ?_
  rintro e w2 ⟨rfl, hb2⟩
  have W2 := Lib.hid (thn W1.out hb2.1)
  clear hb2
  go_wp2_with fail
  go_ret2
  exact ⟨rfl, W2.out⟩
set_option maxHeartbeats 1000000 in
theorem RowsCompare_err (A A' : Option Addr) (c c' : Nat) (a b : List V) (w : World) (hA : Plain A) (hA' : Plain A') (hr : VReads w w.heap.size A a) (hr2 : VReads w w.heap.size A' b) (hi : InL [a, b]) (h0 : chkR [[a, b]] ≠ 0) :
    Calls Tryz.prog 24 #[.slice A a.length c, .slice A' b.length c'] w fun e w' => e = .returned (.tuple #[.int .i64 0, .int .i64 (chkR [[a, b]])]) ∧ Below w.heap.size w w' := by
  have HA := Lib.hid (And.intro hr (And.intro hr2 (And.intro hi (And.intro hA hA'))))
  have he : (chkR [[a, b]] != 0) = true := by simp [h0]
  clear hr hr2 hi h0 hA hA'
  go_enter Tryz.func24, Tryz.ntmps24
  go_wp2_with fail
  have p1 := Blk.new w 34 #[.slice A a.length c, .slice A' b.length c']
  have p2 : Below w.heap.size w (w.alloc (.cells #[.slice A a.length c, .slice A' b.length c'] 34)) := al (Below.refl _ _) _
  have p3 := rows_two p1 HA.out.2.2.2.1 HA.out.2.2.2.2 (HA.out.1.below p2 p2.size) (HA.out.2.1.below p2 p2.size)
  have q1 := Blk.new (w.alloc (.cells #[.slice A a.length c, .slice A' b.length c'] 34)) 23 #[.slice (some ⟨w.heap.size, 0, none⟩) [a, b].length 2]
  have q2 := al p2 (.cells #[.slice (some ⟨w.heap.size, 0, none⟩) [a, b].length 2] 23)
  have q3 := LLReads.one q1 (p3.below (al (Below.refl _ _) _) (al (Below.refl _ _) _).size)
  rw [show (w.alloc (.cells #[.slice A a.length c, .slice A' b.length c'] 34)).heap.size = w.heap.size + 1 by simp] at q3
  refine (checkR_any _ _ [[a, b]] _ q3 (fun X hX => ?_) (by simp)).mono ?_
  · simp only [List.mem_cons, List.not_mem_nil, or_false] at hX
    subst hX
    exact HA.out.2.2.1.fit
  rintro e w1 ⟨rfl, hb1⟩
  have W1 := Lib.hid (thn q2 hb1)
  clear p1 p2 p3 q1 q2 q3 hb1
  go_wp2_with fail
  go_ret2
  exact ⟨rfl, W1.out⟩
end Go.Proofs.YtapnnheggjahlaaGreatDoor
