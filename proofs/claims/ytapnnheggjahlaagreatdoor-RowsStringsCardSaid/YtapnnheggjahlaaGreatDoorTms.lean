/-
  CONTRACTS: rows.Times, rows.Distinct.
-/
import Derived.Test.YtapnnheggjahlaaGreatDoorCan
import Derived.Test.YtapnnheggjahlaaGreatDoorGL
namespace Go.Proofs.YtapnnheggjahlaaGreatDoor
open Go.RowKit

theorem rows_one {w : World} {g : Nat} {T : TypeId} {A : Option Addr} {c : Nat} {a : List V} (h : Blk w g T #[.slice A a.length c]) (hA : Plain A) (h1 : VReads w w.heap.size A a) :
    LReads w w.heap.size (some ⟨g, 0, none⟩) [a] := fun _ => ⟨g, 0, rfl, h.lt, fun i r hi => by
  match i, hi with
  | 0, hi => simp at hi; subst hi; exact ⟨A, c, h.cell 0, hA, h1⟩
  | i + 1, hi => simp at hi⟩
theorem InL.one {a : List V} (h : a.length ≤ maxLen ∧ ∀ v ∈ a, v.s.size ≤ maxLen ∧ I64 v.n) : InL [a] := ⟨by simp [maxLen], fun r hr => by
  simp only [List.mem_cons, List.not_mem_nil, or_false] at hr
  subst hr
  exact h⟩

set_option maxHeartbeats 1000000 in
theorem Times_ok (A A' : Option Addr) (c c' : Nat) (L : List (List V)) (r : List V) (w : World) (hG : G w) (hr : LReads w w.heap.size A L) (hA : Plain A') (hr2 : VReads w w.heap.size A' r) (hi : InL L) (hi2 : InL [r]) (h0 : chkR [L, [r]] = 0) :
    Calls Tryz.prog 30 #[.slice A L.length c, .slice A' r.length c'] w fun e w' => e = .returned (.tuple #[.int .i64 (L.count r : Nat), .int .i64 0]) ∧ Below w.heap.size w w' := by
  have HA := Lib.hid (And.intro hr (And.intro hA (And.intro hr2 (And.intro hi hi2))))
  have HG := Lib.hid hG
  have h1 := fine_of h0 (L := L) (by simp) hi
  have h2 := fine_of h0 (L := [r]) (by simp) hi2
  have hL := h1.2.1
  have H0 := Lib.hid (And.intro h1.1 (And.intro (h2.1 r (by simp)) (cnt_count (h2.1 r (by simp)).2 h1.1)))
  have he : (chkR [L, [r]] != 0) = false := by simp [h0]
  clear hG hr hA hr2 hi hi2 h0 h1 h2
  go_enter Tryz.func30, Tryz.ntmps30
  go_wp2_with fail
  have q1 := Blk.new w 34 #[.slice A' r.length c']
  have q1b := q1.alloc (.cells #[.slice A L.length c, .slice (some ⟨w.heap.size, 0, none⟩) 1 1] 23)
  have q2 := Blk.new (w.alloc (.cells #[.slice A' r.length c'] 34)) 23 #[.slice A L.length c, .slice (some ⟨w.heap.size, 0, none⟩) 1 1]
  have q3 : Below w.heap.size w ((w.alloc (.cells #[.slice A' r.length c'] 34)).alloc (.cells #[.slice A L.length c, .slice (some ⟨w.heap.size, 0, none⟩) 1 1] 23)) := al (al (Below.refl _ _) _) _
  have q4 := LLReads.two (L2 := [r]) q2 (HA.out.1.below q3 q3.size) (rows_one q1b HA.out.2.1 (HA.out.2.2.1.below q3 q3.size))
  rw [show (w.alloc (.cells #[.slice A' r.length c'] 34)).heap.size = w.heap.size + 1 by simp] at q4
  refine (checkR_any _ _ [L, [r]] _ q4 (fun X hX => ?_) (by simp)).mono ?_
  · simp only [List.mem_cons, List.not_mem_nil, or_false] at hX
    rcases hX with rfl | rfl
    · exact HA.out.2.2.2.1.fit
    · exact HA.out.2.2.2.2.fit
  rintro e w1 ⟨rfl, hb1⟩
  have W1 := Lib.hid (thn q3 hb1)
  clear q1 q1b q2 q3 q4 hb1
  go_wp2_with fail
  refine (counts_any A c L _ (HG.out.thn W1.out) (HA.out.1.below W1.out W1.out.size) H0.out.1 hL).mono ?_
  rintro e w2 ⟨b, rfl, hbw, hcm, hb2⟩
  have W2 := Lib.hid (And.intro hcm (thn W1.out hb2))
  clear hcm hb2 hbw
  go_wp2_with fail
  refine (written_any A' c' r _ (HG.out.thn W2.out.2) (HA.out.2.2.1.below W2.out.2 W2.out.2.size) H0.out.2.1.2 H0.out.2.1.1).mono ?_
  rintro e w3 ⟨rfl, hb3⟩
  have W3 := Lib.hid (thn W2.out.2 hb3)
  have hlk := (W2.out.1.below hb3).look r H0.out.2.1
  rw [H0.out.2.2] at hlk
  clear hb3
  go_wp2_with fail
  go_ret2
  exact ⟨rfl, W3.out⟩
set_option maxHeartbeats 1000000 in
theorem Times_err (A A' : Option Addr) (c c' : Nat) (L : List (List V)) (r : List V) (w : World) (hr : LReads w w.heap.size A L) (hA : Plain A') (hr2 : VReads w w.heap.size A' r) (hi : InL L) (hi2 : InL [r]) (h0 : chkR [L, [r]] ≠ 0) :
    Calls Tryz.prog 30 #[.slice A L.length c, .slice A' r.length c'] w fun e w' => e = .returned (.tuple #[.int .i64 0, .int .i64 (chkR [L, [r]])]) ∧ Below w.heap.size w w' := by
  have HA := Lib.hid (And.intro hr (And.intro hA (And.intro hr2 (And.intro hi hi2))))
  have he : (chkR [L, [r]] != 0) = true := by simp [h0]
  clear hr hA hr2 hi hi2 h0
  go_enter Tryz.func30, Tryz.ntmps30
  go_wp2_with fail
  have q1 := Blk.new w 34 #[.slice A' r.length c']
  have q1b := q1.alloc (.cells #[.slice A L.length c, .slice (some ⟨w.heap.size, 0, none⟩) 1 1] 23)
  have q2 := Blk.new (w.alloc (.cells #[.slice A' r.length c'] 34)) 23 #[.slice A L.length c, .slice (some ⟨w.heap.size, 0, none⟩) 1 1]
  have q3 : Below w.heap.size w ((w.alloc (.cells #[.slice A' r.length c'] 34)).alloc (.cells #[.slice A L.length c, .slice (some ⟨w.heap.size, 0, none⟩) 1 1] 23)) := al (al (Below.refl _ _) _) _
  have q4 := LLReads.two (L2 := [r]) q2 (HA.out.1.below q3 q3.size) (rows_one q1b HA.out.2.1 (HA.out.2.2.1.below q3 q3.size))
  rw [show (w.alloc (.cells #[.slice A' r.length c'] 34)).heap.size = w.heap.size + 1 by simp] at q4
  refine (checkR_any _ _ [L, [r]] _ q4 (fun X hX => ?_) (by simp)).mono ?_
  · simp only [List.mem_cons, List.not_mem_nil, or_false] at hX
    rcases hX with rfl | rfl
    · exact HA.out.2.2.2.1.fit
    · exact HA.out.2.2.2.2.fit
  rintro e w1 ⟨rfl, hb1⟩
  have W1 := Lib.hid (thn q3 hb1)
  clear q1 q1b q2 q3 q4 hb1
  go_wp2_with fail
  go_ret2
  exact ⟨rfl, W1.out⟩
theorem Times_any (A A' : Option Addr) (c c' : Nat) (L : List (List V)) (r : List V) (w : World) (hG : G w) (hr : LReads w w.heap.size A L) (hA : Plain A') (hr2 : VReads w w.heap.size A' r) (hi : InL L) (hi2 : InL [r]) :
    Calls Tryz.prog 30 #[.slice A L.length c, .slice A' r.length c'] w fun e w' => ∃ n : Int, e = .returned (.tuple #[.int .i64 n, .int .i64 (chkR [L, [r]])]) ∧ (chkR [L, [r]] = 0 → n = (L.count r : Nat)) ∧ (chkR [L, [r]] ≠ 0 → n = 0) ∧ Below w.heap.size w w' := by
  by_cases h0 : chkR [L, [r]] = 0
  · exact (Times_ok A A' c c' L r w hG hr hA hr2 hi hi2 h0).mono fun e w' ⟨h1, h2⟩ => ⟨_, by rw [h0]; exact h1, fun _ => rfl, fun h => absurd h0 h, h2⟩
  · exact (Times_err A A' c c' L r w hr hA hr2 hi hi2 h0).mono fun e w' ⟨h1, h2⟩ => ⟨_, h1, fun h => absurd h h0, fun _ => rfl, h2⟩

def fOne (_ _ : Nat) : Nat := 1
theorem fOne_times (w : World) : IsTimes fOne (.func (.func 68) #[] #[]) w := by
  refine ⟨_, _, rfl, enters_of Tryz.func68 (by kernel_rfl) rfl, fun w1 hb a b ha hb2 => ?_⟩
  show Calls _ _ #[.int .i64 (a : Int), .int .i64 (b : Int)] _ _
  go_enter Tryz.func68, Tryz.ntmps68
  go_wp2
  go_ret
  exact ⟨ret_int (by unfold fOne; simp), Below.refl _ _⟩
theorem one_choose (L : List (List V)) (f : List V → Nat) : chooseR (fun n x => fOne n (f x)) L = hdsR (canon L) := by
  unfold chooseR
  have : ∀ x ∈ hdsR (canon L), List.replicate (min (fOne (L.count x) (f x)) (L.count x)) x = [x] := fun x hx => by
    have hc : 0 < L.count x := List.count_pos_iff.2 (srtC_mem.1 (hdsR_mem hx))
    have e : min (fOne (L.count x) (f x)) (L.count x) = 1 := by unfold fOne; omega
    rw [e]; rfl
  rw [flatMap_same (g := fun x => [x]) this]
  simp
set_option maxHeartbeats 1000000 in
theorem Distinct_ok (A : Option Addr) (c : Nat) (L : List (List V)) (w : World) (hG : G w) (hr : LReads w w.heap.size A L) (hi : InL L) (h0 : chkR [L] = 0) :
    Calls Tryz.prog 31 #[.slice A L.length c] w fun e w' => ∃ v, e = .returned (.tuple #[v, .int .i64 0]) ∧ OutR w w' v (ddR (canon L)) ∧ Below w.heap.size w w' := by
  have HA := Lib.hid (And.intro hr hi)
  have HG := Lib.hid hG
  have f1 := fine_of h0 (L := L) (by simp) hi
  have hL := f1.2.1
  have H0 := Lib.hid f1.1
  have he : (chkR [L] != 0) = false := by simp [h0]
  rw [ddR_eq]
  clear hG hr hi h0 f1
  go_enter Tryz.func31, Tryz.ntmps31
  go_wp2_with fail
  have q1 := Blk.new w 23 #[.slice A L.length c]
  have q2 : Below w.heap.size w (w.alloc (.cells #[.slice A L.length c] 23)) := al (Below.refl _ _) _
  refine (checkR_any _ _ [L] _ (LLReads.one q1 (HA.out.1.below q2 q2.size)) (fun X hX => ?_) (by simp)).mono ?_
  · simp only [List.mem_cons, List.not_mem_nil, or_false] at hX
    subst hX
    exact HA.out.2.fit
  rintro e w1 ⟨rfl, hb1⟩
  have W1 := Lib.hid (thn q2 hb1)
  clear q1 q2 hb1
  go_wp2_with fail
  refine (chosen_any A none c 0 L [] fOne _ _ (HG.out.thn W1.out) (HA.out.1.below W1.out W1.out.size) (fun h => by simp at h) H0.out (fun r h => by simp at h) hL (by simp) (fOne_times _) (fun a b h => by unfold fOne; omega)).mono ?_
  rintro e w2 ⟨v, vs, rfl, ho, hrs, hb2⟩
  rw [one_choose L (fun x => cnt (rowS x) [])] at ho hrs
  have HO : Hid (OutR w w2 v (hdsR (canon L)) ∧ Below w.heap.size w w2) := ⟨OutR.up ⟨vs, ho, hrs⟩ W1.out.size, thn W1.out hb2⟩
  obtain ⟨ao, co, rfl⟩ := own_slice ho
  clear ho hrs hb2
  go_wp2_with fail
  go_ret2
  exact ⟨_, rfl, HO.out⟩
set_option maxHeartbeats 1000000 in
theorem Distinct_err (A : Option Addr) (c : Nat) (L : List (List V)) (w : World) (hr : LReads w w.heap.size A L) (hi : InL L) (h0 : chkR [L] ≠ 0) :
    Calls Tryz.prog 31 #[.slice A L.length c] w fun e w' => e = .returned (.tuple #[.slice none 0 0, .int .i64 (chkR [L])]) ∧ Below w.heap.size w w' := by
  have HA := Lib.hid (And.intro hr hi)
  have he : (chkR [L] != 0) = true := by simp [h0]
  clear hr hi h0
  go_enter Tryz.func31, Tryz.ntmps31
  go_wp2_with fail
  have q1 := Blk.new w 23 #[.slice A L.length c]
  have q2 : Below w.heap.size w (w.alloc (.cells #[.slice A L.length c] 23)) := al (Below.refl _ _) _
  refine (checkR_any _ _ [L] _ (LLReads.one q1 (HA.out.1.below q2 q2.size)) (fun X hX => ?_) (by simp)).mono ?_
  · simp only [List.mem_cons, List.not_mem_nil, or_false] at hX
    subst hX
    exact HA.out.2.fit
  rintro e w1 ⟨rfl, hb1⟩
  have W1 := Lib.hid (thn q2 hb1)
  clear q1 q2 hb1
  go_wp2_with fail
  go_ret2
  exact ⟨rfl, W1.out⟩
theorem Distinct_any (A : Option Addr) (c : Nat) (L : List (List V)) (w : World) (hG : G w) (hr : LReads w w.heap.size A L) (hi : InL L) :
    Calls Tryz.prog 31 #[.slice A L.length c] w fun e w' => ∃ (Ao : Option Addr) (no co : Nat), e = .returned (.tuple #[.slice Ao no co, .int .i64 (chkR [L])]) ∧ (chkR [L] = 0 → no = (ddR (canon L)).length ∧ LReads w' w'.heap.size Ao (ddR (canon L))) ∧ (chkR [L] ≠ 0 → no = 0) ∧ Below w.heap.size w w' := by
  by_cases h0 : chkR [L] = 0
  · refine (Distinct_ok A c L w hG hr hi h0).mono fun e w' ⟨v, h1, h2, h3⟩ => ?_
    obtain ⟨Ao, co, rfl, hl⟩ := OutR.lreads h2
    exact ⟨Ao, _, co, by rw [h0]; exact h1, fun _ => ⟨rfl, hl⟩, fun h => absurd h0 h, h3⟩
  · exact (Distinct_err A c L w hr hi h0).mono fun e w' ⟨h1, h2⟩ => ⟨_, _, _, h1, fun h => absurd h h0, fun _ => rfl, h2⟩
end Go.Proofs.YtapnnheggjahlaaGreatDoor
