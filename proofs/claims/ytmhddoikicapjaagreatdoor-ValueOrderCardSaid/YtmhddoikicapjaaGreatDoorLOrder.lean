/-
  THE LAW ValueOrder: it returns true, whatever came in.
-/
import Derived.Test.YtmhddoikicapjaaGreatDoorLLists
import Derived.Test.YtmhddoikicapjaaGreatDoorRefT
import Derived.Deep.CutBlock
import Derived.Test.YtmhddoikicapjaaGreatDoorGrow
namespace Go.Proofs.YtmhddoikicapjaaGreatDoor
open Go.RowKit

set_option maxHeartbeats 400000 in
theorem less_any (x y : V) (w : World) (hx : V.ok x = true) (hy : V.ok y = true) :
    Calls Tryz.prog 16 #[.agg #[.int .i64 x.k, .int .i64 x.n, .string x.s], .agg #[.int .i64 y.k, .int .i64 y.n, .string y.s]] w fun e w' => e = .returned (.tuple #[.int .i64 (cmpW x y), .bool true]) ∧ Below w.heap.size w w' := by
  have HX := Lib.hid hx
  have HY := Lib.hid hy
  have HC : Hid (chk [⟨x.k, x.n, x.s⟩, ⟨y.k, y.n, y.s⟩] = 0) := chk_good (by simp) (by
    have e1 : V.ok ⟨x.k, x.n, x.s⟩ = true := hx
    have e2 : V.ok ⟨y.k, y.n, y.s⟩ = true := hy
    simp [e1, e2])
  have HSX := Lib.hid (ok_size hx)
  have HSY := Lib.hid (ok_size hy)
  clear hx hy
  go_enter Tryz.func16, Tryz.ntmps16
  go_wp2_with fail
  refine (Compare_ok x.k x.n x.s y.k y.n y.s _ HSX.out HSY.out HC.out).mono ?_
  rintro e w1 ⟨rfl, hb1⟩
  have W1 := Lib.hid (thn (al (al (Below.refl _ w) _) _) hb1)
  have HCM : Hid (cmpV x.k x.n x.s y.k y.n y.s = cmpW x y) := rfl
  generalize cmpV x.k x.n x.s y.k y.n y.s = r at *
  clear hb1
  go_wp2_with fail
  exact bodyPost_ret (v := .tuple #[.int .i64 r, .bool true]) (by simp [results, Tryz.results16, go_sem]) rfl ⟨by rw [HCM.out], W1.out⟩

theorem VReads.four {w : World} {g B : Nat} {T : TypeId} {x y z u : V} (h : Blk w g T #[.int .i64 x.k, .int .i64 x.n, .string x.s, .int .i64 y.k, .int .i64 y.n, .string y.s, .int .i64 z.k, .int .i64 z.n, .string z.s, .int .i64 u.k, .int .i64 u.n, .string u.s]) (hg : g < B) :
    VReads w B (some ⟨g, 0, none⟩) [x, y, z, u] := fun _ => by
  refine ⟨g, 0, rfl, hg, fun i v hi => ?_⟩
  match i, hi with
  | 0, hi => simp at hi; subst hi; exact ⟨h.cell 0, h.cell 1, h.cell 2⟩
  | 1, hi => simp at hi; subst hi; exact ⟨h.cell 3, h.cell 4, h.cell 5⟩
  | 2, hi => simp at hi; subst hi; exact ⟨h.cell 6, h.cell 7, h.cell 8⟩
  | 3, hi => simp at hi; subst hi; exact ⟨h.cell 9, h.cell 10, h.cell 11⟩
  | i + 4, hi => simp at hi
theorem cb_range : ∀ a b : List UInt8, Lib.compareBytes a b = -1 ∨ Lib.compareBytes a b = 0 ∨ Lib.compareBytes a b = 1
  | [], [] => .inr (.inl rfl)
  | [], _ :: _ => .inl rfl
  | _ :: _, [] => .inr (.inr rfl)
  | x :: a, y :: b => by
    unfold Lib.compareBytes
    split
    · exact .inl rfl
    · split
      · exact .inr (.inr rfl)
      · exact cb_range a b
theorem cmpW_range (x y : V) : cmpW x y = -1 ∨ cmpW x y = 0 ∨ cmpW x y = 1 := by
  unfold cmpW cmpV
  split
  · split
    · exact cb_range _ _
    · have := cmpI_cases x.n y.n; omega
  · have := cmpI_cases x.k y.k; omega
theorem cmpW_lt_le {x y z : V} (h1 : cmpW x y < 0) (h2 : cmpW y z ≤ 0) : cmpW x z < 0 := by
  by_cases e2 : cmpW y z = 0
  · rw [← cmpW_eq e2]; exact h1
  · exact cmpW_lt h1 (by omega)
theorem srt_step {l : List V} {k : Nat} (h : k + 1 < (srt l).length) : cmpW ((srt l)[k]'(by omega)) (srt l)[k + 1] ≤ 0 :=
  leV_iff.1 (List.pairwise_iff_getElem.1 (srt_rises l) k (k + 1) (by omega) h (Nat.lt_succ_self _))
theorem bset {B : Nat} {a w : World} {g : Nat} (h : Below B a w) (hg : B ≤ g) (i : Nat) (u : Value) : Below B a (w.setCell ⟨g, i, none⟩ u) := h.setCell hg u
set_option maxHeartbeats 8000000 in
set_option maxRecDepth 100000 in
theorem order_law (a b c : V) (w : World) (hG : G w) (hsa : a.s.size ≤ maxLen) (hsb : b.s.size ≤ maxLen) (hsc : c.s.size ≤ maxLen) (hia : I64 a.n) (hib : I64 b.n) (hic : I64 c.n) :
    Calls Tryz.prog 4 #[.agg #[.int .i64 a.k, .int .i64 a.n, .string a.s], .agg #[.int .i64 b.k, .int .i64 b.n, .string b.s], .agg #[.int .i64 c.k, .int .i64 c.n, .string c.s]] w fun e w' => e = .returned (.bool true) ∧ Below w.heap.size w w' := by
  have HG := Lib.hid hG
  have HA := Lib.hid (And.intro hsa hia)
  have HB := Lib.hid (And.intro hsb hib)
  have HC := Lib.hid (And.intro hsc hic)
  clear hG hsa hsb hsc hia hib hic
  have hne := @neqV
  have heq := @eqV
  go_enter Tryz.func4, Tryz.ntmps4
  go_upto_region 1 with fail
  have PA : C3 (((w.alloc (.cells #[.int .i64 a.k, .int .i64 a.n, .string a.s] 35)).alloc (.cells #[.int .i64 b.k, .int .i64 b.n, .string b.s] 35)).alloc (.cells #[.int .i64 c.k, .int .i64 c.n, .string c.s] 35)) w.heap.size a.k a.n a.s := (C3.new.al _).al _
  have PB : C3 (((w.alloc (.cells #[.int .i64 a.k, .int .i64 a.n, .string a.s] 35)).alloc (.cells #[.int .i64 b.k, .int .i64 b.n, .string b.s] 35)).alloc (.cells #[.int .i64 c.k, .int .i64 c.n, .string c.s] 35)) (w.heap.size + 1) b.k b.n b.s := by
    have h : C3 ((w.alloc (.cells #[.int .i64 a.k, .int .i64 a.n, .string a.s] 35)).alloc (.cells #[.int .i64 b.k, .int .i64 b.n, .string b.s] 35)) (w.alloc (.cells #[.int .i64 a.k, .int .i64 a.n, .string a.s] 35)).heap.size b.k b.n b.s := C3.new
    have e : (w.alloc (.cells #[.int .i64 a.k, .int .i64 a.n, .string a.s] 35)).heap.size = w.heap.size + 1 := by simp
    rw [e] at h
    exact h.al _
  have PC : C3 (((w.alloc (.cells #[.int .i64 a.k, .int .i64 a.n, .string a.s] 35)).alloc (.cells #[.int .i64 b.k, .int .i64 b.n, .string b.s] 35)).alloc (.cells #[.int .i64 c.k, .int .i64 c.n, .string c.s] 35)) (w.heap.size + 1 + 1) c.k c.n c.s := by
    have h : C3 (((w.alloc (.cells #[.int .i64 a.k, .int .i64 a.n, .string a.s] 35)).alloc (.cells #[.int .i64 b.k, .int .i64 b.n, .string b.s] 35)).alloc (.cells #[.int .i64 c.k, .int .i64 c.n, .string c.s] 35)) ((w.alloc (.cells #[.int .i64 a.k, .int .i64 a.n, .string a.s] 35)).alloc (.cells #[.int .i64 b.k, .int .i64 b.n, .string b.s] 35)).heap.size c.k c.n c.s := C3.new
    have e : ((w.alloc (.cells #[.int .i64 a.k, .int .i64 a.n, .string a.s] 35)).alloc (.cells #[.int .i64 b.k, .int .i64 b.n, .string b.s] 35)).heap.size = w.heap.size + 1 + 1 := by simp
    rw [e] at h
    exact h
  have W0 := Lib.hid (al (al (al (Below.refl w.heap.size w) (.cells #[.int .i64 a.k, .int .i64 a.n, .string a.s] 35)) (.cells #[.int .i64 b.k, .int .i64 b.n, .string b.s] 35)) (.cells #[.int .i64 c.k, .int .i64 c.n, .string c.s] 35))
  generalize hw0 : ((w.alloc (.cells #[.int .i64 a.k, .int .i64 a.n, .string a.s] 35)).alloc (.cells #[.int .i64 b.k, .int .i64 b.n, .string b.s] 35)).alloc (.cells #[.int .i64 c.k, .int .i64 c.n, .string c.s] 35) = w0 at *
  clear hw0
  generalize w.heap.size + 1 + 1 = gc at *
  generalize w.heap.size + 1 = gb at *
  go_cut [7, 8, 9, 23, 24, 25, 26, 27, 28] (fun p q r _ _ _ _ _ _ wx => ∃ (g7 g8 g9 : Nat) (x y z : V), p = .pointer (some ⟨g7, 0, none⟩) ∧ q = .pointer (some ⟨g8, 0, none⟩) ∧ r = .pointer (some ⟨g9, 0, none⟩) ∧ Hid (V.ok x = true) ∧ Hid (V.ok y = true) ∧ Hid (V.ok z = true) ∧ Hid (C3 wx g7 x.k x.n x.s) ∧ Hid (C3 wx g8 y.k y.n y.s) ∧ Hid (C3 wx g9 z.k z.n z.s) ∧ Hid (Below w0.heap.size w0 wx))
  case first =>
    refine wp_region_grow (W := w0) 9 [[], [0], [], [2], [], [4], [], [], []] [6, 7, 8] (fun i v w' => match i with
      | 0 => v = .agg #[.int .i64 a.k, .int .i64 a.n, .string a.s]
      | 2 => v = .agg #[.int .i64 b.k, .int .i64 b.n, .string b.s]
      | 4 => v = .agg #[.int .i64 c.k, .int .i64 c.n, .string c.s]
      | 1 | 3 | 5 => ∃ x : V, v = .agg #[.int .i64 x.k, .int .i64 x.n, .string x.s] ∧ V.ok x = true
      | _ => ∃ g, v = .pointer (some ⟨g, 0, none⟩) ∧ w0.heap.size ≤ g ∧ Blk w' g 35 #[.int .i64 0, .int .i64 0, .string ⟨#[]⟩]) (by kernel_rfl) (by kernel_rfl) ?hD ⟨?o0, ?o1, ?o2, ?o3, ?o4, ?o5, ?o6, ?o7, ?o8, trivial⟩ ?fin
    case hD =>
      intro i v w1 w2 hb hd
      split at hd <;> first | exact hd | (obtain ⟨g, e, hg, h⟩ := hd; exact ⟨g, e, hg, h.below hb h.lt⟩)
    case o0 =>
      refine growOne_of (pre := []) rfl ?_
      simp only [fillL, Act.put]
      intro f w' hb hp
      obtain ⟨q0, q1, q2, q3⟩ := PA.thn hb
      clear hp
      go_wp2_with fail
      exact ⟨Below.refl _ _, rfl, fun h => by simp at h⟩
    case o2 =>
      refine growOne_of (pre := []) rfl ?_
      simp only [fillL, Act.put]
      intro f w' hb hp
      obtain ⟨q0, q1, q2, q3⟩ := PB.thn hb
      clear hp
      go_wp2_with fail
      exact ⟨Below.refl _ _, rfl, fun h => by simp at h⟩
    case o4 =>
      refine growOne_of (pre := []) rfl ?_
      simp only [fillL, Act.put]
      intro f w' hb hp
      obtain ⟨q0, q1, q2, q3⟩ := PC.thn hb
      clear hp
      go_wp2_with fail
      exact ⟨Below.refl _ _, rfl, fun h => by simp at h⟩
    case o1 =>
      refine growOne_of (pre := [0]) rfl ?_
      simp only [fillL, Region.dstOf, List.getElem?_toArray, List.getElem?_cons_zero, Option.bind_some, Act.put]
      intro f w' hb hp
      have h0 : f 0 = .agg #[.int .i64 a.k, .int .i64 a.n, .string a.s] := hp 0 (List.mem_cons_self ..)
      clear hp
      rw [h0]
      go_wp2_with fail
      refine (Tame_any a.k a.n a.s _ HA.out.2 HA.out.1).mono ?_
      rintro e w1 ⟨x, rfl, hx, _, hb1⟩
      go_wp2_with fail
      exact ⟨hb1, ⟨x, rfl, hx⟩, fun h => by simp at h⟩
    case o3 =>
      refine growOne_of (pre := [2]) rfl ?_
      simp only [fillL, Region.dstOf, List.getElem?_toArray, List.getElem?_cons_zero, List.getElem?_cons_succ, Option.bind_some, Act.put]
      intro f w' hb hp
      have h0 : f 2 = .agg #[.int .i64 b.k, .int .i64 b.n, .string b.s] := hp 2 (List.mem_cons_self ..)
      clear hp
      rw [h0]
      go_wp2_with fail
      refine (Tame_any b.k b.n b.s _ HB.out.2 HB.out.1).mono ?_
      rintro e w1 ⟨x, rfl, hx, _, hb1⟩
      go_wp2_with fail
      exact ⟨hb1, ⟨x, rfl, hx⟩, fun h => by simp at h⟩
    case o5 =>
      refine growOne_of (pre := [4]) rfl ?_
      simp only [fillL, Region.dstOf, List.getElem?_toArray, List.getElem?_cons_zero, List.getElem?_cons_succ, Option.bind_some, Act.put]
      intro f w' hb hp
      have h0 : f 4 = .agg #[.int .i64 c.k, .int .i64 c.n, .string c.s] := hp 4 (List.mem_cons_self ..)
      clear hp
      rw [h0]
      go_wp2_with fail
      refine (Tame_any c.k c.n c.s _ HC.out.2 HC.out.1).mono ?_
      rintro e w1 ⟨x, rfl, hx, _, hb1⟩
      go_wp2_with fail
      exact ⟨hb1, ⟨x, rfl, hx⟩, fun h => by simp at h⟩
    case o6 =>
      refine growOne_of (pre := []) rfl ?_
      simp only [fillL, Act.put]
      intro f w' hb hp
      clear hp
      have nb : NewPtr (.pointer (some ⟨w'.heap.size, 0, none⟩)) w' (w'.alloc (.cells #[.int .i64 0, .int .i64 0, .string ⟨#[]⟩] 35)) := ⟨_, rfl, Nat.le_refl _, by simp⟩
      have nc := Blk.new w' 35 #[.int .i64 0, .int .i64 0, .string ⟨#[]⟩]
      have nd : Below w'.heap.size w' (w'.alloc (.cells #[.int .i64 0, .int .i64 0, .string ⟨#[]⟩] 35)) := al (Below.refl _ _) _
      have HN := Lib.hid (And.intro nb (And.intro nc nd))
      clear nb nc nd
      go_wp2_with fail
      exact ⟨HN.out.2.2, ⟨_, rfl, hb.size, HN.out.2.1⟩, fun _ => HN.out.1⟩
    case o7 =>
      refine growOne_of (pre := []) rfl ?_
      simp only [fillL, Act.put]
      intro f w' hb hp
      clear hp
      have nb : NewPtr (.pointer (some ⟨w'.heap.size, 0, none⟩)) w' (w'.alloc (.cells #[.int .i64 0, .int .i64 0, .string ⟨#[]⟩] 35)) := ⟨_, rfl, Nat.le_refl _, by simp⟩
      have nc := Blk.new w' 35 #[.int .i64 0, .int .i64 0, .string ⟨#[]⟩]
      have nd : Below w'.heap.size w' (w'.alloc (.cells #[.int .i64 0, .int .i64 0, .string ⟨#[]⟩] 35)) := al (Below.refl _ _) _
      have HN := Lib.hid (And.intro nb (And.intro nc nd))
      clear nb nc nd
      go_wp2_with fail
      exact ⟨HN.out.2.2, ⟨_, rfl, hb.size, HN.out.2.1⟩, fun _ => HN.out.1⟩
    case o8 =>
      refine growOne_of (pre := []) rfl ?_
      simp only [fillL, Act.put]
      intro f w' hb hp
      clear hp
      have nb : NewPtr (.pointer (some ⟨w'.heap.size, 0, none⟩)) w' (w'.alloc (.cells #[.int .i64 0, .int .i64 0, .string ⟨#[]⟩] 35)) := ⟨_, rfl, Nat.le_refl _, by simp⟩
      have nc := Blk.new w' 35 #[.int .i64 0, .int .i64 0, .string ⟨#[]⟩]
      have nd : Below w'.heap.size w' (w'.alloc (.cells #[.int .i64 0, .int .i64 0, .string ⟨#[]⟩] 35)) := al (Below.refl _ _) _
      have HN := Lib.hid (And.intro nb (And.intro nc nd))
      clear nb nc nd
      go_wp2_with fail
      exact ⟨HN.out.2.2, ⟨_, rfl, hb.size, HN.out.2.1⟩, fun _ => HN.out.1⟩
    case fin =>
      intro f w' hb hd hf
      obtain ⟨x, e1, hx⟩ := hd 1 (by decide)
      obtain ⟨y, e3, hy⟩ := hd 3 (by decide)
      obtain ⟨z, e5, hz⟩ := hd 5 (by decide)
      obtain ⟨g7, e6, hg7, h7⟩ := hd 6 (by decide)
      obtain ⟨g8, e7, hg8, h8⟩ := hd 7 (by decide)
      obtain ⟨g9, e8, hg9, h9⟩ := hd 8 (by decide)
      have d1 := hf 6 (by decide) 7 (by decide) (by decide) (by decide) (by decide)
      have d2 := hf 6 (by decide) 8 (by decide) (by decide) (by decide) (by decide)
      have d3 := hf 7 (by decide) 8 (by decide) (by decide) (by decide) (by decide)
      have e0 : f 0 = .agg #[.int .i64 a.k, .int .i64 a.n, .string a.s] := hd 0 (by decide)
      have e2 : f 2 = .agg #[.int .i64 b.k, .int .i64 b.n, .string b.s] := hd 2 (by decide)
      have e4 : f 4 = .agg #[.int .i64 c.k, .int .i64 c.n, .string c.s] := hd 4 (by decide)
      clear hd hf
      rw [e6, e7] at d1
      rw [e6, e8] at d2
      rw [e7, e8] at d3
      have n1 : g7 ≠ g8 := fun e => d1 (by rw [e])
      have n2 : g7 ≠ g9 := fun e => d2 (by rw [e])
      have n3 : g8 ≠ g9 := fun e => d3 (by rw [e])
      clear d1 d2 d3
      rw [show List.range 9 = [0, 1, 2, 3, 4, 5, 6, 7, 8] from rfl]
      simp only [fillL, Region.dstOf, List.getElem?_toArray, List.getElem?_cons_zero, List.getElem?_cons_succ, Option.bind_some, Act.put]
      rw [e0, e1, e2, e3, e4, e5, e6, e7, e8]
      clear e0 e1 e2 e3 e4 e5 e6 e7 e8
      obtain ⟨⟨c70, c71, c72⟩, c73, c74, c75⟩ := h7.three
      obtain ⟨⟨c80, c81, c82⟩, c83, c84, c85⟩ := h8.three
      obtain ⟨⟨c90, c91, c92⟩, c93, c94, c95⟩ := h9.three
      have H7 := Lib.hid (((h7.three_set (.int .i64 x.k) (.int .i64 x.n) (.string x.s)).far3 n1 (.int .i64 y.k) (.int .i64 y.n) (.string y.s)).far3 n2 (.int .i64 z.k) (.int .i64 z.n) (.string z.s))
      have H8 := Lib.hid (((h8.far3 n1.symm (.int .i64 x.k) (.int .i64 x.n) (.string x.s)).three_set (.int .i64 y.k) (.int .i64 y.n) (.string y.s)).far3 n3 (.int .i64 z.k) (.int .i64 z.n) (.string z.s))
      have H9 := Lib.hid (((h9.far3 n2.symm (.int .i64 x.k) (.int .i64 x.n) (.string x.s)).far3 n3.symm (.int .i64 y.k) (.int .i64 y.n) (.string y.s)).three_set (.int .i64 z.k) (.int .i64 z.n) (.string z.s))
      have HBB := Lib.hid (bset (bset (bset (bset (bset (bset (bset (bset (bset hb hg7 0 (.int .i64 x.k)) hg7 1 (.int .i64 x.n)) hg7 2 (.string x.s)) hg8 0 (.int .i64 y.k)) hg8 1 (.int .i64 y.n)) hg8 2 (.string y.s)) hg9 0 (.int .i64 z.k)) hg9 1 (.int .i64 z.n)) hg9 2 (.string z.s))
      clear h7 h8 h9 hb
      have n1' := Ne.symm n1
      have n2' := Ne.symm n2
      have n3' := Ne.symm n3
      go_wp2_with fail
      go_meet
      exact ⟨g7, g8, g9, x, y, z, rfl, rfl, rfl, hx, hy, hz, ⟨H7.out.lt, H7.out.cell 0, H7.out.cell 1, H7.out.cell 2⟩, ⟨H8.out.lt, H8.out.cell 0, H8.out.cell 1, H8.out.cell 2⟩, ⟨H9.out.lt, H9.out.cell 0, H9.out.cell 1, H9.out.cell 2⟩, HBB.out⟩
  case rest =>
    obtain ⟨g7, g8, g9, x, y, z, rfl, rfl, rfl, HX, HY, HZ, P7, P8, P9, HB1⟩ := hcut
    have W1 := Lib.hid (thn W0.out HB1.out)
    clear PA PB PC HB1 W0 HA HB HC
    obtain ⟨p0, p1, p2, p3⟩ := P7.out
    obtain ⟨q0, q1, q2, q3⟩ := P8.out
    go_wp2_with fail
    refine (less_any x y _ HX.out HY.out).mono ?_
    rintro e w2 ⟨rfl, hb2⟩
    have W2 := Lib.hid (thn W1.out hb2)
    have P72 := Lib.hid (P7.out.thn hb2)
    have P82 := Lib.hid (P8.out.thn hb2)
    have P92 := Lib.hid (P9.out.thn hb2)
    clear hb2 p0 p1 p2 p3 q0 q1 q2 q3 P7 P8 P9
    obtain ⟨p0, p1, p2, p3⟩ := P72.out
    obtain ⟨q0, q1, q2, q3⟩ := P82.out
    go_wp2_with fail
    refine (less_any y x _ HY.out HX.out).mono ?_
    rintro e w3 ⟨rfl, hb3⟩
    have W3 := Lib.hid (thn W2.out hb3)
    have P73 := Lib.hid (P72.out.thn hb3)
    have P83 := Lib.hid (P82.out.thn hb3)
    have P93 := Lib.hid (P92.out.thn hb3)
    clear hb3 p0 p1 p2 p3 q0 q1 q2 q3 P72 P82 P92
    obtain ⟨q0, q1, q2, q3⟩ := P83.out
    obtain ⟨r0, r1, r2, r3⟩ := P93.out
    go_wp2_with fail
    refine (less_any y z _ HY.out HZ.out).mono ?_
    rintro e w4 ⟨rfl, hb4⟩
    have W4 := Lib.hid (thn W3.out hb4)
    have P74 := Lib.hid (P73.out.thn hb4)
    have P84 := Lib.hid (P83.out.thn hb4)
    have P94 := Lib.hid (P93.out.thn hb4)
    clear hb4 r0 r1 r2 r3 q0 q1 q2 q3 P73 P83 P93
    obtain ⟨p0, p1, p2, p3⟩ := P74.out
    obtain ⟨r0, r1, r2, r3⟩ := P94.out
    go_wp2_with fail
    refine (less_any x z _ HX.out HZ.out).mono ?_
    rintro e w5 ⟨rfl, hb5⟩
    have W5 := Lib.hid (thn W4.out hb5)
    have P75 := Lib.hid (P74.out.thn hb5)
    have P85 := Lib.hid (P84.out.thn hb5)
    have P95 := Lib.hid (P94.out.thn hb5)
    clear hb5 r0 r1 r2 r3 p0 p1 p2 p3 P74 P84 P94
    go_upto_region 6 with fail
    have hq := cmpW_rev x y
    have hP := cmpW_range x y
    have hR := cmpW_range y z
    have hS := cmpW_range x z
    have h1 : cmpW x y ≤ 0 → cmpW y z ≤ 0 → cmpW x z ≤ 0 := cmpW_le
    have h2 : cmpW x y < 0 → cmpW y z ≤ 0 → cmpW x z < 0 := cmpW_lt_le
    have hv : veq x.k x.n x.s y.k y.n y.s = decide (cmpW x y = 0) := by
      by_cases he : cmpW x y = 0
      · rw [decide_eq_true he]
        exact veq_yes (cmpW_eq he)
      · rw [decide_eq_false he]
        exact veq_no fun e => he (by rw [e]; exact cmpW_self y)
    rw [hq]
    generalize cmpW x y = P at *
    generalize cmpW y z = R at *
    generalize cmpW x z = S at *
    have HP := Lib.hid hP
    have HR := Lib.hid hR
    have HS := Lib.hid hS
    have H1 := Lib.hid h1
    have H2 := Lib.hid h2
    have HV := Lib.hid hv
    clear hq hP hR hS h1 h2 hv
    go_cut [104] (fun t wx => t = .bool false ∧ wx = w5)
    case first =>
      obtain ⟨p0, p1, p2, p3⟩ := P75.out
      obtain ⟨q0, q1, q2, q3⟩ := P85.out
      have hv := HV.out
      have h1 := H1.out
      have h2 := H2.out
      rcases HP.out with rfl | rfl | rfl
      · have hv2 : veq x.k x.n x.s y.k y.n y.s = false := hv
        clear hv
        by_cases hR0 : R ≤ 0
        · have hS0 : ¬ 0 < S := by have := h2 (by decide) hR0; omega
          have hS1 : ¬ 0 ≤ S := by have := h2 (by decide) hR0; omega
          clear h1 h2
          go_wp2_with fail
          go_meet
          exact ⟨rfl, rfl⟩
        · clear h1 h2
          go_wp2_with fail
          go_meet
          exact ⟨rfl, rfl⟩
      · have hv2 : veq x.k x.n x.s y.k y.n y.s = true := hv
        clear hv
        by_cases hR0 : R ≤ 0
        · have hS0 : ¬ 0 < S := by have := h1 (by decide) hR0; omega
          clear h1 h2
          go_wp2_with fail
          go_meet
          exact ⟨rfl, rfl⟩
        · clear h1 h2
          go_wp2_with fail
          go_meet
          exact ⟨rfl, rfl⟩
      · have hv2 : veq x.k x.n x.s y.k y.n y.s = false := hv
        clear hv h1 h2
        go_wp2_with fail
        go_meet
        exact ⟨rfl, rfl⟩
    case rest =>
      obtain ⟨rfl, hw⟩ := hcut
      obtain rfl := hw.symm
      clear HP HR HS H1 H2 HV
      have HCK : Hid (chk [x, y, z, x] = 0) := chk_good (by simp) (by simp [HX.out, HY.out, HZ.out])
      have HFT : Hid (VFit [x, y, z, x]) := fun v hv => by
        simp only [List.mem_cons, List.not_mem_nil, or_false] at hv
        rcases hv with rfl | rfl | rfl | rfl
        · exact ok_size HX.out
        · exact ok_size HY.out
        · exact ok_size HZ.out
        · exact ok_size HX.out
      obtain ⟨T, hT⟩ : ∃ T, T = srt [x, y, z, x] := ⟨_, rfl⟩
      have HOKS : Hid (∀ v ∈ T, V.ok v = true) := fun v hv => by
        have h := srt_mem (hT ▸ hv)
        simp only [List.mem_cons, List.not_mem_nil, or_false] at h
        rcases h with rfl | rfl | rfl | rfl
        · exact HX.out
        · exact HY.out
        · exact HZ.out
        · exact HX.out
      have HRS : Hid (∀ k (h : k + 1 < T.length), cmpW (T[k]'(by omega)) T[k + 1] ≤ 0) := fun k h => by
        subst hT
        exact srt_step h
      have hS4 : T.length = 4 := by rw [hT]; exact srt_len _
      have HT := Lib.hid hT
      clear hT
      obtain ⟨p0, p1, p2, p3⟩ := P75.out
      obtain ⟨q0, q1, q2, q3⟩ := P85.out
      obtain ⟨r0, r1, r2, r3⟩ := P95.out
      go_wp2_with fail
      refine (Sorted_ok _ _ [x, y, z, x] _ (VReads.four (Blk.new' (g := w5.heap.size) rfl) (by simp)) (fun ad ha => ⟨w5.heap.size, 0, (Option.some.inj ha).symm⟩) HFT.out (by simp) HCK.out).mono ?_
      rintro e w6 ⟨v6, rfl, ho6, hb6⟩
      have W6 := Lib.hid (thn (al W5.out _) hb6)
      clear hb6 p0 p1 p2 p3 q0 q1 q2 q3 r0 r1 r2 r3 P75 P85 P95
      rw [← HT.out] at ho6
      obtain ⟨A6, c6, rfl, _, _, hr6, _⟩ := own_reads ho6
      have HR6 := Lib.hid hr6
      have hl4 : ((T.length : Int) != 4) = false := by simp [hS4]
      clear ho6 hr6
      go_wp2_with fail
      go_loopw [20] (fun i wr => ∃ j : Nat, 1 ≤ j ∧ j ≤ 4 ∧ i = .int .i64 j ∧ Hid (Below w6.heap.size w6 wr)) (fun i _ => 4 - (intOf i).toNat)
      case atStart => exact ⟨1, Nat.le_refl _, by decide, rfl, Below.refl _ _⟩
      case round =>
        obtain ⟨j, hj1, hj4, rfl, HB⟩ := hrel
        by_cases hlt : j < 4
        · have hji : (j : Int) < 4 := by omega
          have hj0i : (0 : Int) ≤ (j : Int) := by omega
          have hjl : j < T.length := by omega
          obtain ⟨k, hkj⟩ : ∃ k, j = k + 1 := ⟨j - 1, by omega⟩
          have hkl : k < T.length := by omega
          have hjw : wrap64 ((j : Int) - 1) = (k : Int) := by unfold wrap64; omega
          have hjw2 : IntKind.i64.wrap ((j : Int) - 1) = (k : Int) := by rw [IntKind.wrap_i64]; omega
          have hki : (k : Int) < (T.length : Int) := by omega
          have hk0 : (0 : Int) ≤ (k : Int) := by omega
          have hjli : (j : Int) < (T.length : Int) := by omega
          obtain ⟨b1, o1, rfl, hk1, l0, l1, l2⟩ := (HR6.out.below HB.out HB.out.size).at_ hkl
          obtain ⟨b1', o1', ha, _, m0, m1, m2⟩ := (HR6.out.below HB.out HB.out.size).at_ hjl
          injection ha with ha
          injection ha with e1 e2
          subst e1 e2
          have la0 : ∀ x : Aft wr, x.w.cell? ⟨b1, o1 + k * 3, none⟩ = some (.int .i64 T[k].k) := fun x => (x.h.cell (p := ⟨b1, _, none⟩) hk1).trans l0
          have la1 : ∀ x : Aft wr, x.w.cell? ⟨b1, o1 + k * 3 + 1, none⟩ = some (.int .i64 T[k].n) := fun x => (x.h.cell (p := ⟨b1, _, none⟩) hk1).trans l1
          have la2 : ∀ x : Aft wr, x.w.cell? ⟨b1, o1 + k * 3 + 2, none⟩ = some (.string T[k].s) := fun x => (x.h.cell (p := ⟨b1, _, none⟩) hk1).trans l2
          have ma0 : ∀ x : Aft wr, x.w.cell? ⟨b1, o1 + j * 3, none⟩ = some (.int .i64 T[j].k) := fun x => (x.h.cell (p := ⟨b1, _, none⟩) hk1).trans m0
          have ma1 : ∀ x : Aft wr, x.w.cell? ⟨b1, o1 + j * 3 + 1, none⟩ = some (.int .i64 T[j].n) := fun x => (x.h.cell (p := ⟨b1, _, none⟩) hk1).trans m1
          have ma2 : ∀ x : Aft wr, x.w.cell? ⟨b1, o1 + j * 3 + 2, none⟩ = some (.string T[j].s) := fun x => (x.h.cell (p := ⟨b1, _, none⟩) hk1).trans m2
          have hle : ¬ 0 < cmpW T[k] T[j] := by
            subst hkj
            have := HRS.out k hjl
            omega
          have hok1 := HOKS.out T[k] (List.getElem_mem hkl)
          have hok2 := HOKS.out T[j] (List.getElem_mem hjl)
          clear hkj l0 l1 l2 m0 m1 m2
          go_wp2_with fail
          refine region_aft (by kernel_rfl) (by kernel_rfl) ?_
          repeat (go_big_quiet_step ((go_at_call 16; exact aft_call (less_any T[k] T[j] _ hok1 hok2))))
          refine wpQuiet_nil ?_
          intro x9
          generalize cmpW T[k] T[j] = t at *
          go_wp2_with fail
          go_roundw
          case rel => exact ⟨j + 1, by omega, by omega, by go_num, thn HB.out x9.h⟩
          case measure => simp [intOf]; omega
        · go_wp2_with fail
          refine (awake_any _ (HG.out.thn (thn W6.out HB.out))).mono ?_
          rintro e wz ⟨rfl, hbz⟩
          go_wp2_with fail
          go_ret
          exact ⟨rfl, thn (thn W6.out HB.out) hbz⟩
end Go.Proofs.YtmhddoikicapjaaGreatDoor
