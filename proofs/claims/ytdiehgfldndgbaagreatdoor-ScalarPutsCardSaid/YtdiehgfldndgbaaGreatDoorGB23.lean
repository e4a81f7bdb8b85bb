/-
  Op1: CONTRACTS of what the operations of package scalar do: numbers, truths, texts; the closures that calculate, divide, compare and hold.
  Op3: CONTRACTS of the closures that compare.
  Op4: CONTRACTS of the closures that hold, and of the plain operations.
  OpF: CONTRACT of scalar.operationOf: what each operation does, as a function value.
  MpF: THE MAP OF OPERATIONS: what each key holds, as a function value.
  Op2: CONTRACTS of the closures that divide, compare and hold.
  RpM: MATHEMATICS of expressions rebuilt: values, kinds, form and nodes.
  RpF: MATHEMATICS of Move and Put: values and kinds of an expression whose columns are moved, or replaced.
-/
import Derived.Test.YtdiehgfldndgbaaGreatDoorGA22
import Derived.Test.YtdiehgfldndgbaaGreatDoorGA01
import Derived.Test.YtdiehgfldndgbaaGreatDoorGA03
import Derived.Test.YtdiehgfldndgbaaGreatDoorGA18
import Derived.Test.YtdiehgfldndgbaaGreatDoorGA08
import Derived.Maps.OwnOps
import Derived.Test.YtdiehgfldndgbaaGreatDoorGA20
import Derived.Test.YtdiehgfldndgbaaGreatDoorGA07
namespace Go.Proofs.YtdiehgfldndgbaaGreatDoor
open Go.RowKit

/-- a function without what it captured -/
abbrev fnV (K : FuncId) : Value := .func (.func K) #[] #[]
theorem numberS_any (n : Int) (w : World) : Calls Tryz.prog 177 #[.int .i64 n] w fun x w' => x = .returned (.agg #[.int .i64 1, .int .i64 n, .string ⟨#[]⟩]) ∧ Below w.heap.size w w' := by
  go_enter Tryz.func177, Tryz.ntmps177
  go_wp2_with fail
  exact bodyPost_ret (v := .agg #[.int .i64 1, .int .i64 n, .string ⟨#[]⟩]) (by simp [results, Tryz.results177, go_sem]) rfl ⟨rfl, al (Below.refl _ _) _⟩
theorem truthS_any (b : Bool) (w : World) : Calls Tryz.prog 85 #[.bool b] w fun x w' => x = .returned (.agg #[.int .i64 2, .int .i64 (b2i b), .string ⟨#[]⟩]) ∧ Below w.heap.size w w' := by
  cases b
  · go_enter Tryz.func85, Tryz.ntmps85
    go_wp2_with fail
    exact bodyPost_ret (v := .agg #[.int .i64 2, .int .i64 0, .string ⟨#[]⟩]) (by simp [results, Tryz.results85, go_sem]) rfl ⟨rfl, al (Below.refl _ _) _⟩
  · go_enter Tryz.func85, Tryz.ntmps85
    go_wp2_with fail
    exact bodyPost_ret (v := .agg #[.int .i64 2, .int .i64 1, .string ⟨#[]⟩]) (by simp [results, Tryz.results85, go_sem]) rfl ⟨rfl, al (Below.refl _ _) _⟩
theorem textS_any (s : ByteArray) (w : World) : Calls Tryz.prog 179 #[.string s] w fun x w' => x = .returned (.agg #[.int .i64 3, .int .i64 0, .string (txtV s).s]) ∧ Below w.heap.size w w' := by
  have hx : s.extract 0 (min (s.size : Int) 200).toNat = (txtV s).s := by
    show s.extract 0 (min (s.size : Int) 200).toNat = s.extract 0 (min s.size 200)
    rw [show (min (s.size : Int) 200).toNat = min s.size 200 by omega]
  have HX := Lib.hid hx
  clear hx
  by_cases h : s.size ≤ 200
  · go_enter Tryz.func179, Tryz.ntmps179
    go_wp2_with fail
    exact bodyPost_ret (v := .agg #[.int .i64 3, .int .i64 0, .string (txtV s).s]) (by simp [results, Tryz.results179, go_sem, HX.out]) rfl ⟨rfl, al (Below.refl _ _) _⟩
  · go_enter Tryz.func179, Tryz.ntmps179
    go_wp2_with fail
    exact bodyPost_ret (v := .agg #[.int .i64 3, .int .i64 0, .string (txtV s).s]) (by simp [results, Tryz.results179, go_sem, HX.out]) rfl ⟨rfl, al (Below.refl _ _) _⟩
/-- the cells of two values -/
theorem VReads.two_at {w : World} {B : Nat} {A : Option Addr} {l : List V} (h : VReads w B A l) (h2 : l.length = 2) : ∃ b o x y, l = [x, y] ∧ A = some ⟨b, o, none⟩ ∧ b < B ∧
    (w.cell? ⟨b, o, none⟩ = some (.int .i64 x.k) ∧ w.cell? ⟨b, o + 1, none⟩ = some (.int .i64 x.n) ∧ w.cell? ⟨b, o + 2, none⟩ = some (.string x.s)) ∧
    (w.cell? ⟨b, o + 3, none⟩ = some (.int .i64 y.k) ∧ w.cell? ⟨b, o + 3 + 1, none⟩ = some (.int .i64 y.n) ∧ w.cell? ⟨b, o + 3 + 2, none⟩ = some (.string y.s)) := by
  match l, h2 with
  | [x, y], _ =>
    obtain ⟨b, o, rfl, hb, hc⟩ := h (by simp)
    have h0 := hc 0 x rfl
    have h1 := hc 1 y rfl
    rw [Nat.zero_mul, Nat.add_zero] at h0
    rw [Nat.one_mul] at h1
    exact ⟨b, o, x, y, rfl, rfl, hb, h0, h1⟩
set_option maxHeartbeats 2000000 in
set_option maxRecDepth 100000 in
theorem calc1_any (K : FuncId) (fx : Int → Int → Int) (g : Nat) (A : Option Addr) (c : Nat) (x y : V) (w : World) (hB : Blk w g 217 #[fnV K]) (heg : ∀ args W, (callFunc K args).run Tryz.prog W = .ok (.enter K args) W)
    (hf : ∀ a b w1, Calls Tryz.prog K #[.int .i64 a, .int .i64 b] w1 fun u w' => u = .returned (.int .i64 (fx a b)) ∧ w1 = w') (hr : VReads w w.heap.size A [x, y]) :
    Calls Tryz.prog 233 #[.slice A 2 c, .pointer (some ⟨g, 0, none⟩)] w fun u w' => u = .returned (.agg #[.int .i64 1, .int .i64 (fx x.n y.n), .string ⟨#[]⟩]) ∧ Below w.heap.size w w' := by
  obtain ⟨b, o, x', y', hl, rfl, hb, ⟨-, h1, -⟩, -, h4, -⟩ := hr.two_at rfl
  simp only [List.cons.injEq, and_true] at hl
  obtain ⟨rfl, rfl⟩ := hl
  have HG : Hid (Blk (w.alloc (.cells #[.int .i64 0, .int .i64 0, .string ⟨#[]⟩] 27)) g 217 #[fnV K]) := Lib.hid (hB.alloc _)
  have HX : Hid (b < (w.alloc (.cells #[.int .i64 0, .int .i64 0, .string ⟨#[]⟩] 27)).heap.size ∧ (w.alloc (.cells #[.int .i64 0, .int .i64 0, .string ⟨#[]⟩] 27)).cell? ⟨b, o + 1, none⟩ = some (.int .i64 x.n) ∧ (w.alloc (.cells #[.int .i64 0, .int .i64 0, .string ⟨#[]⟩] 27)).cell? ⟨b, o + 3 + 1, none⟩ = some (.int .i64 y.n)) := Lib.hid ⟨by simp; omega, (World.cell?_alloc_lt w _ _ hb).trans h1, (World.cell?_alloc_lt w _ _ hb).trans h4⟩
  have HF := Lib.hid hf
  clear hB hf hr h1 h4 hb
  go_enter Tryz.func233, Tryz.ntmps233
  go_upto_region 1 with fail
  refine wp_region_grow (W := (w.alloc (.cells #[.int .i64 0, .int .i64 0, .string ⟨#[]⟩] 27))) 11 [[], [], [1], [2], [3], [], [5], [6], [7], [0, 4, 8], [9]] [] (fun i u w => match i with | 0 => u = fnV K | 1 => u = .slice (some ⟨b, o, none⟩) 2 c | 2 => u = .pointer (some ⟨b, o, none⟩) | 3 => u = .pointer (some ⟨b, o + 1, none⟩) | 4 => u = .int .i64 x.n | 5 => u = .slice (some ⟨b, o, none⟩) 2 c | 6 => u = .pointer (some ⟨b, o + 3, none⟩) | 7 => u = .pointer (some ⟨b, o + 3 + 1, none⟩) | 8 => u = .int .i64 y.n | 9 => u = .int .i64 (fx x.n y.n) | _ => u = .agg #[.int .i64 1, .int .i64 (fx x.n y.n), .string ⟨#[]⟩]) (by kernel_rfl) (by kernel_rfl) ?hD ⟨?o0, ?o1, ?o2, ?o3, ?o4, ?o5, ?o6, ?o7, ?o8, ?o9, ?o10, trivial⟩ ?fin
  case hD =>
    intro i u w1 w2 hb hd
    split at hd <;> first | exact hd | exact hd.imp fun g hg => ⟨hg.1, hg.2.below hb hg.2.lt⟩
  case o0 =>
    refine growOne_of (pre := []) rfl ?_
    simp only [fillL, Act.put]
    intro f w' hb hp
    have k0 := (hb.cell (p := ⟨g, 0, none⟩) HG.out.lt).trans (HG.out.cell 0)
    simp only [List.getElem?_toArray, List.getElem?_cons_zero] at k0
    clear hp
    clear hb
    go_wp2_with fail
    exact ⟨Below.refl _ _, rfl, fun h => by simp at h⟩
  case o1 =>
    refine growOne_of (pre := []) rfl ?_
    simp only [fillL, Act.put]
    intro f w' hb hp
    clear hp
    clear hb
    go_wp2_with fail
    exact ⟨Below.refl _ _, rfl, fun h => by simp at h⟩
  case o2 =>
    refine growOne_of (pre := [1]) rfl ?_
    simp only [fillL, Region.dstOf, List.getElem?_toArray, List.getElem?_cons_zero, List.getElem?_cons_succ, Option.bind_some, Act.put]
    intro f w' hb hp
    have h1 : f 1 = .slice (some ⟨b, o, none⟩) 2 c := hp 1 (by decide)
    clear hp
    rw [h1]
    clear h1
    clear hb
    go_wp2_with fail
    exact ⟨Below.refl _ _, rfl, fun h => by simp at h⟩
  case o3 =>
    refine growOne_of (pre := [2]) rfl ?_
    simp only [fillL, Region.dstOf, List.getElem?_toArray, List.getElem?_cons_zero, List.getElem?_cons_succ, Option.bind_some, Act.put]
    intro f w' hb hp
    have h2 : f 2 = .pointer (some ⟨b, o, none⟩) := hp 2 (by decide)
    clear hp
    rw [h2]
    clear h2
    clear hb
    go_wp2_with fail
    exact ⟨Below.refl _ _, rfl, fun h => by simp at h⟩
  case o4 =>
    refine growOne_of (pre := [3]) rfl ?_
    simp only [fillL, Region.dstOf, List.getElem?_toArray, List.getElem?_cons_zero, List.getElem?_cons_succ, Option.bind_some, Act.put]
    intro f w' hb hp
    have h3 : f 3 = .pointer (some ⟨b, o + 1, none⟩) := hp 3 (by decide)
    have k0 := (hb.cell (p := ⟨b, o + 1, none⟩) HX.out.1).trans HX.out.2.1
    clear hp
    rw [h3]
    clear h3
    clear hb
    go_wp2_with fail
    exact ⟨Below.refl _ _, rfl, fun h => by simp at h⟩
  case o5 =>
    refine growOne_of (pre := []) rfl ?_
    simp only [fillL, Act.put]
    intro f w' hb hp
    clear hp
    clear hb
    go_wp2_with fail
    exact ⟨Below.refl _ _, rfl, fun h => by simp at h⟩
  case o6 =>
    refine growOne_of (pre := [5]) rfl ?_
    simp only [fillL, Region.dstOf, List.getElem?_toArray, List.getElem?_cons_zero, List.getElem?_cons_succ, Option.bind_some, Act.put]
    intro f w' hb hp
    have h5 : f 5 = .slice (some ⟨b, o, none⟩) 2 c := hp 5 (by decide)
    clear hp
    rw [h5]
    clear h5
    clear hb
    go_wp2_with fail
    exact ⟨Below.refl _ _, rfl, fun h => by simp at h⟩
  case o7 =>
    refine growOne_of (pre := [6]) rfl ?_
    simp only [fillL, Region.dstOf, List.getElem?_toArray, List.getElem?_cons_zero, List.getElem?_cons_succ, Option.bind_some, Act.put]
    intro f w' hb hp
    have h6 : f 6 = .pointer (some ⟨b, o + 3, none⟩) := hp 6 (by decide)
    clear hp
    rw [h6]
    clear h6
    clear hb
    go_wp2_with fail
    exact ⟨Below.refl _ _, rfl, fun h => by simp at h⟩
  case o8 =>
    refine growOne_of (pre := [7]) rfl ?_
    simp only [fillL, Region.dstOf, List.getElem?_toArray, List.getElem?_cons_zero, List.getElem?_cons_succ, Option.bind_some, Act.put]
    intro f w' hb hp
    have h7 : f 7 = .pointer (some ⟨b, o + 3 + 1, none⟩) := hp 7 (by decide)
    have k0 := (hb.cell (p := ⟨b, o + 3 + 1, none⟩) HX.out.1).trans HX.out.2.2
    clear hp
    rw [h7]
    clear h7
    clear hb
    go_wp2_with fail
    exact ⟨Below.refl _ _, rfl, fun h => by simp at h⟩
  case o9 =>
    refine growOne_of (pre := [0, 4, 8]) rfl ?_
    simp only [fillL, Region.dstOf, List.getElem?_toArray, List.getElem?_cons_zero, List.getElem?_cons_succ, Option.bind_some, Act.put]
    intro f w' hb hp
    have h0 : f 0 = fnV K := hp 0 (by decide)
    have h4 : f 4 = .int .i64 x.n := hp 4 (by decide)
    have h8 : f 8 = .int .i64 y.n := hp 8 (by decide)
    clear hp
    rw [h0, h4, h8]
    clear h0 h4 h8
    clear hb
    go_wp2_with fail
    refine (HF.out _ _ _).mono ?_
    rintro u w9 ⟨rfl, rfl⟩
    go_wp2_with fail
    exact ⟨Below.refl _ _, rfl, fun h => by simp at h⟩
  case o10 =>
    refine growOne_of (pre := [9]) rfl ?_
    simp only [fillL, Region.dstOf, List.getElem?_toArray, List.getElem?_cons_zero, List.getElem?_cons_succ, Option.bind_some, Act.put]
    intro f w' hb hp
    have h9 : f 9 = .int .i64 (fx x.n y.n) := hp 9 (by decide)
    clear hp
    rw [h9]
    clear h9
    clear hb
    go_wp2_with fail
    refine (numberS_any _ _).mono ?_
    rintro u w9 ⟨rfl, hb9⟩
    have HO := Lib.hid hb9
    clear hb9
    go_wp2_with fail
    exact ⟨HO.out, rfl, fun h => by simp at h⟩
  case fin =>
    intro f w' hb hd _
    have e0 : f 0 = fnV K := hd 0 (by decide)
    have e1 : f 1 = .slice (some ⟨b, o, none⟩) 2 c := hd 1 (by decide)
    have e2 : f 2 = .pointer (some ⟨b, o, none⟩) := hd 2 (by decide)
    have e3 : f 3 = .pointer (some ⟨b, o + 1, none⟩) := hd 3 (by decide)
    have e4 : f 4 = .int .i64 x.n := hd 4 (by decide)
    have e5 : f 5 = .slice (some ⟨b, o, none⟩) 2 c := hd 5 (by decide)
    have e6 : f 6 = .pointer (some ⟨b, o + 3, none⟩) := hd 6 (by decide)
    have e7 : f 7 = .pointer (some ⟨b, o + 3 + 1, none⟩) := hd 7 (by decide)
    have e8 : f 8 = .int .i64 y.n := hd 8 (by decide)
    have e9 : f 9 = .int .i64 (fx x.n y.n) := hd 9 (by decide)
    have e10 : f 10 = .agg #[.int .i64 1, .int .i64 (fx x.n y.n), .string ⟨#[]⟩] := hd 10 (by decide)
    clear hd
    rw [show List.range 11 = [0, 1, 2, 3, 4, 5, 6, 7, 8, 9, 10] from rfl]
    simp only [fillL, Region.dstOf, List.getElem?_toArray, List.getElem?_cons_zero, List.getElem?_cons_succ, Option.bind_some, Act.put]
    rw [e0, e1, e2, e3, e4, e5, e6, e7, e8, e9, e10]
    clear e0 e1 e2 e3 e4 e5 e6 e7 e8 e9 e10
    have hBr : Blk w' w.heap.size 27 #[.int .i64 0, .int .i64 0, .string ⟨#[]⟩] := (Blk.new w 27 #[.int .i64 0, .int .i64 0, .string ⟨#[]⟩]).below hb (Blk.new w 27 #[.int .i64 0, .int .i64 0, .string ⟨#[]⟩]).lt
    have hbw := thn (al (Below.refl w.heap.size w) _) hb
    have f0 := hBr.frozen 0
    have d0 := hBr.cell 0
    have f1 := hBr.frozen 1
    have d1 := hBr.cell 1
    have f2 := hBr.frozen 2
    have d2 := hBr.cell 2
    simp only [List.getElem?_toArray, List.getElem?_cons_succ, List.getElem?_cons_zero] at d0 d1 d2
    clear hb
    go_frame
    go_wp2_with fail
    have HB := hBr.three_set (.int .i64 1) (.int .i64 (fx x.n y.n)) (.string ⟨#[]⟩)
    obtain ⟨⟨q0, q1, q2⟩, -⟩ := HB.three
    exact bodyPost_ret (v := .agg #[.int .i64 1, .int .i64 (fx x.n y.n), .string ⟨#[]⟩]) (by simp [results, Tryz.results233, go_sem, q0, q1, q2]) rfl ⟨rfl, st3 hbw (Nat.le_refl _) _ _ _⟩
end Go.Proofs.YtdiehgfldndgbaaGreatDoor
namespace Go.Proofs.YtdiehgfldndgbaaGreatDoor
open Go.RowKit

theorem ok_size {v : V} (h : v.ok = true) : v.s.size ≤ 200 := by
  rcases ok_cases (k := v.k) (n := v.n) (s := v.s) h with ⟨_, _, h⟩ | ⟨_, h⟩ | ⟨_, _, h⟩ | ⟨_, _, h⟩ | ⟨_, _, h⟩
  · rw [h]; exact Nat.zero_le _
  · rw [h]; exact Nat.zero_le _
  · rw [h]; exact Nat.zero_le _
  · rw [h]; exact Nat.zero_le _
  · exact okText_size h
theorem ok_max {v : V} (h : v.ok = true) : v.s.size ≤ maxLen := Nat.le_trans (ok_size h) (by unfold maxLen; omega)
set_option maxHeartbeats 2000000 in
set_option maxRecDepth 100000 in
theorem cmp1_any (K : FuncId) (p : Int → Bool) (g : Nat) (A : Option Addr) (c : Nat) (x y : V) (w : World) (hB : Blk w g 101 #[fnV K]) (heg : ∀ args W, (callFunc K args).run Tryz.prog W = .ok (.enter K args) W)
    (hf : ∀ n w1, Calls Tryz.prog K #[.int .i64 n] w1 fun u w' => u = .returned (.bool (p n)) ∧ w1 = w') (hr : VReads w w.heap.size A [x, y]) (hx : x.ok = true) (hy : y.ok = true) :
    Calls Tryz.prog 235 #[.slice A 2 c, .pointer (some ⟨g, 0, none⟩)] w fun u w' => u = .returned (V.val (truV (p (cmpV x.k x.n x.s y.k y.n y.s)))) ∧ Below w.heap.size w w' := by
  obtain ⟨b, o, x', y', hl, rfl, hb, ⟨h0, h1, h2⟩, h3, h4, h5⟩ := hr.two_at rfl
  simp only [List.cons.injEq, and_true] at hl
  obtain ⟨rfl, rfl⟩ := hl
  have HX : Hid (b < (w.alloc (.cells #[.int .i64 0, .int .i64 0, .string ⟨#[]⟩] 27)).heap.size ∧ ((w.alloc (.cells #[.int .i64 0, .int .i64 0, .string ⟨#[]⟩] 27)).cell? ⟨b, o, none⟩ = some (.int .i64 x.k) ∧ (w.alloc (.cells #[.int .i64 0, .int .i64 0, .string ⟨#[]⟩] 27)).cell? ⟨b, o + 1, none⟩ = some (.int .i64 x.n) ∧ (w.alloc (.cells #[.int .i64 0, .int .i64 0, .string ⟨#[]⟩] 27)).cell? ⟨b, o + 2, none⟩ = some (.string x.s)) ∧ (w.alloc (.cells #[.int .i64 0, .int .i64 0, .string ⟨#[]⟩] 27)).cell? ⟨b, o + 3, none⟩ = some (.int .i64 y.k) ∧ (w.alloc (.cells #[.int .i64 0, .int .i64 0, .string ⟨#[]⟩] 27)).cell? ⟨b, o + 3 + 1, none⟩ = some (.int .i64 y.n) ∧ (w.alloc (.cells #[.int .i64 0, .int .i64 0, .string ⟨#[]⟩] 27)).cell? ⟨b, o + 3 + 2, none⟩ = some (.string y.s)) :=
    Lib.hid ⟨by simp; omega, ⟨(World.cell?_alloc_lt w _ _ hb).trans h0, (World.cell?_alloc_lt w _ _ hb).trans h1, (World.cell?_alloc_lt w _ _ hb).trans h2⟩, (World.cell?_alloc_lt w _ _ hb).trans h3, (World.cell?_alloc_lt w _ _ hb).trans h4, (World.cell?_alloc_lt w _ _ hb).trans h5⟩
  have HG : Hid (Blk (w.alloc (.cells #[.int .i64 0, .int .i64 0, .string ⟨#[]⟩] 27)) g 101 #[fnV K]) := Lib.hid (hB.alloc _)
  have HF : Hid (∀ w1, Calls Tryz.prog 236 #[.agg #[.int .i64 x.k, .int .i64 x.n, .string x.s], .agg #[.int .i64 y.k, .int .i64 y.n, .string y.s]] w1 fun e w' => e = .returned (.tuple #[.int .i64 (cmpV x.k x.n x.s y.k y.n y.s), .int .i64 0]) ∧ Below w1.heap.size w1 w') := Lib.hid fun w1 => Compare_ok x.k x.n x.s y.k y.n y.s w1 (ok_max hx) (ok_max hy) (by unfold chk; rw [if_neg (by simp), if_pos]; simp only [List.all_cons, List.all_nil, Bool.and_true]; rw [show V.ok ⟨x.k, x.n, x.s⟩ = true from hx, show V.ok ⟨y.k, y.n, y.s⟩ = true from hy]; rfl)
  have HP := Lib.hid hf
  generalize (cmpV x.k x.n x.s y.k y.n y.s) = q at *
  clear hB hf hr h0 h1 h2 h3 h4 h5 hb hx hy
  go_enter Tryz.func235, Tryz.ntmps235
  go_upto_region 1 with fail
  refine wp_region_grow (W := (w.alloc (.cells #[.int .i64 0, .int .i64 0, .string ⟨#[]⟩] 27))) 12 [[], [0], [1], [], [3], [4], [2, 5], [6], [7], [7], [8], [9]] [] (fun i u w => match i with | 0 => u = .slice (some ⟨b, o, none⟩) 2 c | 1 => u = .pointer (some ⟨b, o, none⟩) | 2 => u = .agg #[.int .i64 x.k, .int .i64 x.n, .string x.s] | 3 => u = .slice (some ⟨b, o, none⟩) 2 c | 4 => u = .pointer (some ⟨b, o + 3, none⟩) | 5 => u = .agg #[.int .i64 y.k, .int .i64 y.n, .string y.s] | 6 => u = .tuple #[.int .i64 q, .int .i64 0] | 7 => u = .tuple #[.int .i64 q, .int .i64 0] | 8 => u = .int .i64 q | 9 => u = .int .i64 0 | 10 => u = .int .i64 q | _ => u = .int .i64 0) (by kernel_rfl) (by kernel_rfl) ?hD ⟨?o0, ?o1, ?o2, ?o3, ?o4, ?o5, ?o6, ?o7, ?o8, ?o9, ?o10, ?o11, trivial⟩ ?fin
  case hD =>
    intro i u w1 w2 hb hd
    split at hd <;> first | exact hd | exact hd.imp fun g hg => ⟨hg.1, hg.2.below hb hg.2.lt⟩
  case o0 =>
    refine growOne_of (pre := []) rfl ?_
    simp only [fillL, Act.put]
    intro f w' hb hp
    clear hp
    clear hb
    go_wp2_with fail
    exact ⟨Below.refl _ _, rfl, fun h => by simp at h⟩
  case o1 =>
    refine growOne_of (pre := [0]) rfl ?_
    simp only [fillL, Region.dstOf, List.getElem?_toArray, List.getElem?_cons_zero, Option.bind_some, Act.put]
    intro f w' hb hp
    have h0 : f 0 = .slice (some ⟨b, o, none⟩) 2 c := hp 0 (by decide)
    clear hp
    rw [h0]
    clear h0
    clear hb
    go_wp2_with fail
    exact ⟨Below.refl _ _, rfl, fun h => by simp at h⟩
  case o2 =>
    refine growOne_of (pre := [1]) rfl ?_
    simp only [fillL, Region.dstOf, List.getElem?_toArray, List.getElem?_cons_zero, List.getElem?_cons_succ, Option.bind_some, Act.put]
    intro f w' hb hp
    have h1 : f 1 = .pointer (some ⟨b, o, none⟩) := hp 1 (by decide)
    have k0 := (hb.cell (p := ⟨b, o, none⟩) HX.out.1).trans HX.out.2.1.1
    have k1 := (hb.cell (p := ⟨b, o + 1, none⟩) HX.out.1).trans HX.out.2.1.2.1
    have k2 := (hb.cell (p := ⟨b, o + 2, none⟩) HX.out.1).trans HX.out.2.1.2.2
    clear hp
    rw [h1]
    clear h1
    clear hb
    go_wp2_with fail
    exact ⟨Below.refl _ _, rfl, fun h => by simp at h⟩
  case o3 =>
    refine growOne_of (pre := []) rfl ?_
    simp only [fillL, Act.put]
    intro f w' hb hp
    clear hp
    clear hb
    go_wp2_with fail
    exact ⟨Below.refl _ _, rfl, fun h => by simp at h⟩
  case o4 =>
    refine growOne_of (pre := [3]) rfl ?_
    simp only [fillL, Region.dstOf, List.getElem?_toArray, List.getElem?_cons_zero, List.getElem?_cons_succ, Option.bind_some, Act.put]
    intro f w' hb hp
    have h3 : f 3 = .slice (some ⟨b, o, none⟩) 2 c := hp 3 (by decide)
    clear hp
    rw [h3]
    clear h3
    clear hb
    go_wp2_with fail
    exact ⟨Below.refl _ _, rfl, fun h => by simp at h⟩
  case o5 =>
    refine growOne_of (pre := [4]) rfl ?_
    simp only [fillL, Region.dstOf, List.getElem?_toArray, List.getElem?_cons_zero, List.getElem?_cons_succ, Option.bind_some, Act.put]
    intro f w' hb hp
    have h4 : f 4 = .pointer (some ⟨b, o + 3, none⟩) := hp 4 (by decide)
    have k0 := (hb.cell (p := ⟨b, o + 3, none⟩) HX.out.1).trans HX.out.2.2.1
    have k1 := (hb.cell (p := ⟨b, o + 3 + 1, none⟩) HX.out.1).trans HX.out.2.2.2.1
    have k2 := (hb.cell (p := ⟨b, o + 3 + 2, none⟩) HX.out.1).trans HX.out.2.2.2.2
    clear hp
    rw [h4]
    clear h4
    clear hb
    go_wp2_with fail
    exact ⟨Below.refl _ _, rfl, fun h => by simp at h⟩
  case o6 =>
    refine growOne_of (pre := [2, 5]) rfl ?_
    simp only [fillL, Region.dstOf, List.getElem?_toArray, List.getElem?_cons_zero, List.getElem?_cons_succ, Option.bind_some, Act.put]
    intro f w' hb hp
    have h2 : f 2 = .agg #[.int .i64 x.k, .int .i64 x.n, .string x.s] := hp 2 (by decide)
    have h5 : f 5 = .agg #[.int .i64 y.k, .int .i64 y.n, .string y.s] := hp 5 (by decide)
    clear hp
    rw [h2, h5]
    clear h2 h5
    clear hb
    go_wp2_with fail
    refine (HF.out _).mono ?_
    rintro u w9 ⟨rfl, hb9⟩
    have HO := Lib.hid hb9
    clear hb9
    go_wp2_with fail
    exact ⟨HO.out, rfl, fun h => by simp at h⟩
  case o7 =>
    refine growOne_of (pre := [6]) rfl ?_
    simp only [fillL, Region.dstOf, List.getElem?_toArray, List.getElem?_cons_zero, List.getElem?_cons_succ, Option.bind_some, Act.put]
    intro f w' hb hp
    have h6 : f 6 = .tuple #[.int .i64 q, .int .i64 0] := hp 6 (by decide)
    clear hp
    rw [h6]
    clear h6
    clear hb
    go_wp2_with fail
    exact ⟨Below.refl _ _, rfl, fun h => by simp at h⟩
  case o8 =>
    refine growOne_of (pre := [7]) rfl ?_
    simp only [fillL, Region.dstOf, List.getElem?_toArray, List.getElem?_cons_zero, List.getElem?_cons_succ, Option.bind_some, Act.put]
    intro f w' hb hp
    have h7 : f 7 = .tuple #[.int .i64 q, .int .i64 0] := hp 7 (by decide)
    clear hp
    rw [h7]
    clear h7
    clear hb
    go_wp2_with fail
    exact ⟨Below.refl _ _, rfl, fun h => by simp at h⟩
  case o9 =>
    refine growOne_of (pre := [7]) rfl ?_
    simp only [fillL, Region.dstOf, List.getElem?_toArray, List.getElem?_cons_zero, List.getElem?_cons_succ, Option.bind_some, Act.put]
    intro f w' hb hp
    have h7 : f 7 = .tuple #[.int .i64 q, .int .i64 0] := hp 7 (by decide)
    clear hp
    rw [h7]
    clear h7
    clear hb
    go_wp2_with fail
    exact ⟨Below.refl _ _, rfl, fun h => by simp at h⟩
  case o10 =>
    refine growOne_of (pre := [8]) rfl ?_
    simp only [fillL, Region.dstOf, List.getElem?_toArray, List.getElem?_cons_zero, List.getElem?_cons_succ, Option.bind_some, Act.put]
    intro f w' hb hp
    have h8 : f 8 = .int .i64 q := hp 8 (by decide)
    clear hp
    rw [h8]
    clear h8
    clear hb
    go_wp2_with fail
    exact ⟨Below.refl _ _, rfl, fun h => by simp at h⟩
  case o11 =>
    refine growOne_of (pre := [9]) rfl ?_
    simp only [fillL, Region.dstOf, List.getElem?_toArray, List.getElem?_cons_zero, List.getElem?_cons_succ, Option.bind_some, Act.put]
    intro f w' hb hp
    have h9 : f 9 = .int .i64 0 := hp 9 (by decide)
    clear hp
    rw [h9]
    clear h9
    clear hb
    go_wp2_with fail
    exact ⟨Below.refl _ _, rfl, fun h => by simp at h⟩
  case fin =>
    intro f w' hb hd _
    have e0 : f 0 = .slice (some ⟨b, o, none⟩) 2 c := hd 0 (by decide)
    have e1 : f 1 = .pointer (some ⟨b, o, none⟩) := hd 1 (by decide)
    have e2 : f 2 = .agg #[.int .i64 x.k, .int .i64 x.n, .string x.s] := hd 2 (by decide)
    have e3 : f 3 = .slice (some ⟨b, o, none⟩) 2 c := hd 3 (by decide)
    have e4 : f 4 = .pointer (some ⟨b, o + 3, none⟩) := hd 4 (by decide)
    have e5 : f 5 = .agg #[.int .i64 y.k, .int .i64 y.n, .string y.s] := hd 5 (by decide)
    have e6 : f 6 = .tuple #[.int .i64 q, .int .i64 0] := hd 6 (by decide)
    have e7 : f 7 = .tuple #[.int .i64 q, .int .i64 0] := hd 7 (by decide)
    have e8 : f 8 = .int .i64 q := hd 8 (by decide)
    have e9 : f 9 = .int .i64 0 := hd 9 (by decide)
    have e10 : f 10 = .int .i64 q := hd 10 (by decide)
    have e11 : f 11 = .int .i64 0 := hd 11 (by decide)
    clear hd
    rw [show List.range 12 = [0, 1, 2, 3, 4, 5, 6, 7, 8, 9, 10, 11] from rfl]
    simp only [fillL, Region.dstOf, List.getElem?_toArray, List.getElem?_cons_zero, List.getElem?_cons_succ, Option.bind_some, Act.put]
    rw [e0, e1, e2, e3, e4, e5, e6, e7, e8, e9, e10, e11]
    clear e0 e1 e2 e3 e4 e5 e6 e7 e8 e9 e10 e11
    have H1 : Hid (Below w.heap.size w w' ∧ Blk w' w.heap.size 27 #[.int .i64 0, .int .i64 0, .string ⟨#[]⟩] ∧ Blk w' g 101 #[fnV K]) := Lib.hid ⟨thn (al (Below.refl w.heap.size w) _) hb, (Blk.new w 27 #[.int .i64 0, .int .i64 0, .string ⟨#[]⟩]).below hb (Blk.new w 27 #[.int .i64 0, .int .i64 0, .string ⟨#[]⟩]).lt, HG.out.below hb HG.out.lt⟩
    clear hb
    have g0 := H1.out.2.2.cell 0
    have gl := H1.out.2.2.lt
    simp only [List.getElem?_toArray, List.getElem?_cons_zero] at g0
    go_frame
    change wpList _ _ _ [] _ _
    go_wp2_with fail
    refine (HP.out _ _).mono ?_
    rintro u w8 ⟨rfl, rfl⟩
    go_wp2_with fail
    refine (truthS_any _ _).mono ?_
    rintro u w9 ⟨rfl, hb9⟩
    have H2 := Lib.hid (And.intro (thn H1.out.1 hb9) (H1.out.2.1.below hb9 H1.out.2.1.lt))
    clear hb9 g0 gl
    have hBr := H2.out.2
    have f0 := hBr.frozen 0
    have d0 := hBr.cell 0
    have f1 := hBr.frozen 1
    have d1 := hBr.cell 1
    have f2 := hBr.frozen 2
    have d2 := hBr.cell 2
    simp only [List.getElem?_toArray, List.getElem?_cons_succ, List.getElem?_cons_zero] at d0 d1 d2
    go_wp2_with fail
    have HB := hBr.three_set (.int .i64 2) (.int .i64 (b2i (p q))) (.string ⟨#[]⟩)
    obtain ⟨⟨q0, q1, q2⟩, -⟩ := HB.three
    exact bodyPost_ret (v := .agg #[.int .i64 2, .int .i64 (b2i (p q)), .string ⟨#[]⟩]) (by simp [results, Tryz.results235, go_sem, q0, q1, q2]) rfl ⟨rfl, st3 H2.out.1 (Nat.le_refl _) _ _ _⟩
end Go.Proofs.YtdiehgfldndgbaaGreatDoor
namespace Go.Proofs.YtdiehgfldndgbaaGreatDoor
open Go.RowKit

set_option maxHeartbeats 2000000 in
set_option maxRecDepth 100000 in
theorem hold1_any (K : FuncId) (jx : Bool) (g : Nat) (A : Option Addr) (c : Nat) (l : List V) (w : World) (hB : Blk w g 220 #[fnV K]) (heg : ∀ args W, (callFunc K args).run Tryz.prog W = .ok (.enter K args) W)
    (hf : ∀ w1, Below w.heap.size w w1 → Calls Tryz.prog K #[.slice A l.length c] w1 fun u w' => u = .returned (.tuple #[.agg #[.int .i64 (joinV jx l).k, .int .i64 (joinV jx l).n, .string (joinV jx l).s], .int .i64 0]) ∧ Below w1.heap.size w1 w') :
    Calls Tryz.prog 237 #[.slice A l.length c, .pointer (some ⟨g, 0, none⟩)] w fun u w' => u = .returned (V.val (joinV jx l)) ∧ Below w.heap.size w w' := by
  have g0 := hB.cell 0
  have gl := hB.lt
  simp only [List.getElem?_toArray, List.getElem?_cons_zero] at g0
  have HF := Lib.hid hf
  clear hB hf
  go_enter Tryz.func237, Tryz.ntmps237
  go_wp2_with fail
  refine (HF.out _ (al (Below.refl _ _) _)).mono ?_
  rintro u w9 ⟨rfl, hb9⟩
  have H9 := Lib.hid (And.intro (thn (al (Below.refl w.heap.size w) _) hb9) ((Blk.new w 27 #[.int .i64 0, .int .i64 0, .string ⟨#[]⟩]).below hb9 (Blk.new w 27 #[.int .i64 0, .int .i64 0, .string ⟨#[]⟩]).lt))
  clear hb9 g0 gl
  have hBr := H9.out.2
  have hBl := hBr.lt
  have f0 := hBr.frozen 0
  have d0 := hBr.cell 0
  have f1 := hBr.frozen 1
  have d1 := hBr.cell 1
  have f2 := hBr.frozen 2
  have d2 := hBr.cell 2
  simp only [List.getElem?_toArray, List.getElem?_cons_succ, List.getElem?_cons_zero] at d0 d1 d2
  go_wp2_with fail
  have HB := (hBr.three_set (.int .i64 (joinV jx l).k) (.int .i64 (joinV jx l).n) (.string (joinV jx l).s)).alloc (.cells #[.int .i64 (joinV jx l).k, .int .i64 (joinV jx l).n, .string (joinV jx l).s] 27)
  obtain ⟨⟨q0, q1, q2⟩, -⟩ := HB.three
  exact bodyPost_ret (v := .agg #[.int .i64 (joinV jx l).k, .int .i64 (joinV jx l).n, .string (joinV jx l).s]) (by simp [results, Tryz.results237, go_sem, q0, q1, q2]) rfl ⟨rfl, al (st3 H9.out.1 (Nat.le_refl _) _ _ _) _⟩
/-- the cells of one value -/
theorem VReads.one_at {w : World} {B : Nat} {A : Option Addr} {x : V} (h : VReads w B A [x]) : ∃ b o, A = some ⟨b, o, none⟩ ∧ b < B ∧
    w.cell? ⟨b, o, none⟩ = some (.int .i64 x.k) ∧ w.cell? ⟨b, o + 1, none⟩ = some (.int .i64 x.n) ∧ w.cell? ⟨b, o + 2, none⟩ = some (.string x.s) := by
  obtain ⟨b, o, rfl, hb, hc⟩ := h (by simp)
  have h0 := hc 0 x rfl
  rw [Nat.zero_mul, Nat.add_zero] at h0
  exact ⟨b, o, rfl, hb, h0⟩
set_option maxHeartbeats 1000000 in
theorem neg1_any (A : Option Addr) (c : Nat) (x : V) (w : World) (hr : VReads w w.heap.size A [x]) :
    Calls Tryz.prog 176 #[.slice A 1 c] w fun u w' => u = .returned (V.val (numX (wrap64 (-x.n)))) ∧ Below w.heap.size w w' := by
  obtain ⟨b, o, rfl, hb, h0, h1, h2⟩ := hr.one_at
  clear hr
  go_enter Tryz.func176, Tryz.ntmps176
  go_wp2_with fail
  refine (numberS_any _ _).mono ?_
  rintro u w9 ⟨rfl, hb9⟩
  have H9 := Lib.hid (And.intro (thn (al (Below.refl w.heap.size w) _) hb9) ((Blk.new w 27 #[.int .i64 0, .int .i64 0, .string ⟨#[]⟩]).below hb9 (Blk.new w 27 #[.int .i64 0, .int .i64 0, .string ⟨#[]⟩]).lt))
  clear hb9
  have hBr := H9.out.2
  have f0 := hBr.frozen 0
  have d0 := hBr.cell 0
  have f1 := hBr.frozen 1
  have d1 := hBr.cell 1
  have f2 := hBr.frozen 2
  have d2 := hBr.cell 2
  simp only [List.getElem?_toArray, List.getElem?_cons_succ, List.getElem?_cons_zero] at d0 d1 d2
  go_wp2_with fail
  have HB := hBr.three_set (.int .i64 1) (.int .i64 (wrap64 (-x.n))) (.string ⟨#[]⟩)
  obtain ⟨⟨q0, q1, q2⟩, -⟩ := HB.three
  exact bodyPost_ret (v := .agg #[.int .i64 1, .int .i64 (wrap64 (-x.n)), .string ⟨#[]⟩]) (by simp [results, Tryz.results176, go_sem, q0, q1, q2]) rfl ⟨rfl, st3 H9.out.1 (Nat.le_refl _) _ _ _⟩
set_option maxHeartbeats 1000000 in
theorem len1_any (A : Option Addr) (c : Nat) (x : V) (w : World) (hr : VReads w w.heap.size A [x]) (hs : x.s.size ≤ 200) :
    Calls Tryz.prog 180 #[.slice A 1 c] w fun u w' => u = .returned (V.val (numX x.s.size)) ∧ Below w.heap.size w w' := by
  obtain ⟨b, o, rfl, hb, h0, h1, h2⟩ := hr.one_at
  have hs := Nat.le_trans hs (Nat.le_refl _)
  clear hr
  go_enter Tryz.func180, Tryz.ntmps180
  go_wp2_with fail
  refine (numberS_any _ _).mono ?_
  rintro u w9 ⟨rfl, hb9⟩
  have H9 := Lib.hid (And.intro (thn (al (Below.refl w.heap.size w) _) hb9) ((Blk.new w 27 #[.int .i64 0, .int .i64 0, .string ⟨#[]⟩]).below hb9 (Blk.new w 27 #[.int .i64 0, .int .i64 0, .string ⟨#[]⟩]).lt))
  clear hb9
  have hBr := H9.out.2
  have f0 := hBr.frozen 0
  have d0 := hBr.cell 0
  have f1 := hBr.frozen 1
  have d1 := hBr.cell 1
  have f2 := hBr.frozen 2
  have d2 := hBr.cell 2
  simp only [List.getElem?_toArray, List.getElem?_cons_succ, List.getElem?_cons_zero] at d0 d1 d2
  go_wp2_with fail
  have HB := hBr.three_set (.int .i64 1) (.int .i64 (x.s.size : Nat)) (.string ⟨#[]⟩)
  obtain ⟨⟨q0, q1, q2⟩, -⟩ := HB.three
  exact bodyPost_ret (v := .agg #[.int .i64 1, .int .i64 (x.s.size : Nat), .string ⟨#[]⟩]) (by simp [results, Tryz.results180, go_sem, q0, q1, q2]) rfl ⟨rfl, st3 H9.out.1 (Nat.le_refl _) _ _ _⟩
set_option maxHeartbeats 1000000 in
theorem isnull1_any (A : Option Addr) (c : Nat) (x : V) (w : World) (hr : VReads w w.heap.size A [x]) :
    Calls Tryz.prog 192 #[.slice A 1 c] w fun u w' => u = .returned (V.val (truV (x.k == 0))) ∧ Below w.heap.size w w' := by
  obtain ⟨b, o, rfl, hb, h0, h1, h2⟩ := hr.one_at
  clear hr
  go_enter Tryz.func192, Tryz.ntmps192
  go_wp2_with fail
  refine (isNullV_any x _).mono ?_
  rintro u w8 ⟨rfl, hb8⟩
  have H8 := Lib.hid (And.intro (thn (al (Below.refl w.heap.size w) _) hb8) ((Blk.new w 27 #[.int .i64 0, .int .i64 0, .string ⟨#[]⟩]).below hb8 (Blk.new w 27 #[.int .i64 0, .int .i64 0, .string ⟨#[]⟩]).lt))
  clear hb8
  go_wp2_with fail
  refine (truthS_any _ _).mono ?_
  rintro u w9 ⟨rfl, hb9⟩
  have H9 := Lib.hid (And.intro (thn H8.out.1 hb9) (H8.out.2.below hb9 H8.out.2.lt))
  clear hb9
  have hBr := H9.out.2
  have f0 := hBr.frozen 0
  have d0 := hBr.cell 0
  have f1 := hBr.frozen 1
  have d1 := hBr.cell 1
  have f2 := hBr.frozen 2
  have d2 := hBr.cell 2
  simp only [List.getElem?_toArray, List.getElem?_cons_succ, List.getElem?_cons_zero] at d0 d1 d2
  go_wp2_with fail
  have HB := hBr.three_set (.int .i64 2) (.int .i64 (b2i (x.k == 0))) (.string ⟨#[]⟩)
  obtain ⟨⟨q0, q1, q2⟩, -⟩ := HB.three
  exact bodyPost_ret (v := .agg #[.int .i64 2, .int .i64 (b2i (x.k == 0)), .string ⟨#[]⟩]) (by simp [results, Tryz.results192, go_sem, q0, q1, q2]) rfl ⟨rfl, st3 H9.out.1 (Nat.le_refl _) _ _ _⟩
set_option maxHeartbeats 2000000 in
set_option maxRecDepth 100000 in
theorem not1_any (A : Option Addr) (c : Nat) (x : V) (w : World) (hr : VReads w w.heap.size A [x]) :
    Calls Tryz.prog 191 #[.slice A 1 c] w fun u w' => u = .returned (V.val (truV (x.isE false))) ∧ Below w.heap.size w w' := by
  obtain ⟨b, o, rfl, hb, h0, h1, h2⟩ := hr.one_at
  have HX : Hid (b < (w.alloc (.cells #[.int .i64 0, .int .i64 0, .string ⟨#[]⟩] 27)).heap.size ∧ (w.alloc (.cells #[.int .i64 0, .int .i64 0, .string ⟨#[]⟩] 27)).cell? ⟨b, o, none⟩ = some (.int .i64 x.k) ∧ (w.alloc (.cells #[.int .i64 0, .int .i64 0, .string ⟨#[]⟩] 27)).cell? ⟨b, o + 1, none⟩ = some (.int .i64 x.n) ∧ (w.alloc (.cells #[.int .i64 0, .int .i64 0, .string ⟨#[]⟩] 27)).cell? ⟨b, o + 2, none⟩ = some (.string x.s)) :=
    Lib.hid ⟨by simp; omega, (World.cell?_alloc_lt w _ _ hb).trans h0, (World.cell?_alloc_lt w _ _ hb).trans h1, (World.cell?_alloc_lt w _ _ hb).trans h2⟩
  clear hr h0 h1 h2 hb
  go_enter Tryz.func191, Tryz.ntmps191
  go_upto_region 1 with fail
  refine wp_region_grow (W := (w.alloc (.cells #[.int .i64 0, .int .i64 0, .string ⟨#[]⟩] 27))) 6 [[], [0], [1], [], [2, 3], [4]] [] (fun i u w => match i with | 0 => u = .slice (some ⟨b, o, none⟩) 1 c | 1 => u = .pointer (some ⟨b, o, none⟩) | 2 => u = .agg #[.int .i64 x.k, .int .i64 x.n, .string x.s] | 3 => u = .agg #[.int .i64 2, .int .i64 0, .string ⟨#[]⟩] | 4 => u = .bool (veq x.k x.n x.s 2 0 ⟨#[]⟩) | _ => u = .agg #[.int .i64 2, .int .i64 (b2i (veq x.k x.n x.s 2 0 ⟨#[]⟩)), .string ⟨#[]⟩]) (by kernel_rfl) (by kernel_rfl) ?hD ⟨?o0, ?o1, ?o2, ?o3, ?o4, ?o5, trivial⟩ ?fin
  case hD =>
    intro i u w1 w2 hb hd
    split at hd <;> first | exact hd | exact hd.imp fun g hg => ⟨hg.1, hg.2.below hb hg.2.lt⟩
  case o0 =>
    refine growOne_of (pre := []) rfl ?_
    simp only [fillL, Act.put]
    intro f w' hb hp
    clear hp
    clear hb
    go_wp2_with fail
    exact ⟨Below.refl _ _, rfl, fun h => by simp at h⟩
  case o1 =>
    refine growOne_of (pre := [0]) rfl ?_
    simp only [fillL, Region.dstOf, List.getElem?_toArray, List.getElem?_cons_zero, Option.bind_some, Act.put]
    intro f w' hb hp
    have h0 : f 0 = .slice (some ⟨b, o, none⟩) 1 c := hp 0 (by decide)
    clear hp
    rw [h0]
    clear h0
    clear hb
    go_wp2_with fail
    exact ⟨Below.refl _ _, rfl, fun h => by simp at h⟩
  case o2 =>
    refine growOne_of (pre := [1]) rfl ?_
    simp only [fillL, Region.dstOf, List.getElem?_toArray, List.getElem?_cons_zero, List.getElem?_cons_succ, Option.bind_some, Act.put]
    intro f w' hb hp
    have h1 : f 1 = .pointer (some ⟨b, o, none⟩) := hp 1 (by decide)
    have k0 := (hb.cell (p := ⟨b, o, none⟩) HX.out.1).trans HX.out.2.1
    have k1 := (hb.cell (p := ⟨b, o + 1, none⟩) HX.out.1).trans HX.out.2.2.1
    have k2 := (hb.cell (p := ⟨b, o + 2, none⟩) HX.out.1).trans HX.out.2.2.2
    clear hp
    rw [h1]
    clear h1
    clear hb
    go_wp2_with fail
    exact ⟨Below.refl _ _, rfl, fun h => by simp at h⟩
  case o3 =>
    refine growOne_of (pre := []) rfl ?_
    simp only [fillL, Act.put]
    intro f w' hb hp
    clear hp
    clear hb
    go_wp2_with fail
    refine (truthS_any _ _).mono ?_
    rintro u w9 ⟨rfl, hb9⟩
    have HO := Lib.hid hb9
    clear hb9
    go_wp2_with fail
    exact ⟨HO.out, rfl, fun h => by simp at h⟩
  case o4 =>
    refine growOne_of (pre := [2, 3]) rfl ?_
    simp only [fillL, Region.dstOf, List.getElem?_toArray, List.getElem?_cons_zero, List.getElem?_cons_succ, Option.bind_some, Act.put]
    intro f w' hb hp
    have h2 : f 2 = .agg #[.int .i64 x.k, .int .i64 x.n, .string x.s] := hp 2 (by decide)
    have h3 : f 3 = .agg #[.int .i64 2, .int .i64 0, .string ⟨#[]⟩] := hp 3 (by decide)
    clear hp
    rw [h2, h3]
    clear h2 h3
    clear hb
    have hev := @eqV
    go_wp2_with fail
    exact ⟨Below.refl _ _, rfl, fun h => by simp at h⟩
  case o5 =>
    refine growOne_of (pre := [4]) rfl ?_
    simp only [fillL, Region.dstOf, List.getElem?_toArray, List.getElem?_cons_zero, List.getElem?_cons_succ, Option.bind_some, Act.put]
    intro f w' hb hp
    have h4 : f 4 = .bool (veq x.k x.n x.s 2 0 ⟨#[]⟩) := hp 4 (by decide)
    clear hp
    rw [h4]
    clear h4
    clear hb
    go_wp2_with fail
    refine (truthS_any _ _).mono ?_
    rintro u w9 ⟨rfl, hb9⟩
    have HO := Lib.hid hb9
    clear hb9
    go_wp2_with fail
    exact ⟨HO.out, rfl, fun h => by simp at h⟩
  case fin =>
    intro f w' hb hd _
    have e0 : f 0 = .slice (some ⟨b, o, none⟩) 1 c := hd 0 (by decide)
    have e1 : f 1 = .pointer (some ⟨b, o, none⟩) := hd 1 (by decide)
    have e2 : f 2 = .agg #[.int .i64 x.k, .int .i64 x.n, .string x.s] := hd 2 (by decide)
    have e3 : f 3 = .agg #[.int .i64 2, .int .i64 0, .string ⟨#[]⟩] := hd 3 (by decide)
    have e4 : f 4 = .bool (veq x.k x.n x.s 2 0 ⟨#[]⟩) := hd 4 (by decide)
    have e5 : f 5 = .agg #[.int .i64 2, .int .i64 (b2i (veq x.k x.n x.s 2 0 ⟨#[]⟩)), .string ⟨#[]⟩] := hd 5 (by decide)
    clear hd
    rw [show List.range 6 = [0, 1, 2, 3, 4, 5] from rfl]
    simp only [fillL, Region.dstOf, List.getElem?_toArray, List.getElem?_cons_zero, List.getElem?_cons_succ, Option.bind_some, Act.put]
    rw [e0, e1, e2, e3, e4, e5]
    clear e0 e1 e2 e3 e4 e5
    have hBr : Blk w' w.heap.size 27 #[.int .i64 0, .int .i64 0, .string ⟨#[]⟩] := (Blk.new w 27 #[.int .i64 0, .int .i64 0, .string ⟨#[]⟩]).below hb (Blk.new w 27 #[.int .i64 0, .int .i64 0, .string ⟨#[]⟩]).lt
    have hbw := thn (al (Below.refl w.heap.size w) _) hb
    have f0 := hBr.frozen 0
    have d0 := hBr.cell 0
    have f1 := hBr.frozen 1
    have d1 := hBr.cell 1
    have f2 := hBr.frozen 2
    have d2 := hBr.cell 2
    simp only [List.getElem?_toArray, List.getElem?_cons_succ, List.getElem?_cons_zero] at d0 d1 d2
    clear hb
    go_frame
    go_wp2_with fail
    have HB := hBr.three_set (.int .i64 2) (.int .i64 (b2i (veq x.k x.n x.s 2 0 ⟨#[]⟩))) (.string ⟨#[]⟩)
    obtain ⟨⟨q0, q1, q2⟩, -⟩ := HB.three
    exact bodyPost_ret (v := .agg #[.int .i64 2, .int .i64 (b2i (veq x.k x.n x.s 2 0 ⟨#[]⟩)), .string ⟨#[]⟩]) (by simp [results, Tryz.results191, go_sem, q0, q1, q2]) rfl ⟨rfl, st3 hbw (Nat.le_refl _) _ _ _⟩
set_option maxHeartbeats 2000000 in
set_option maxRecDepth 100000 in
theorem istrue1_any (A : Option Addr) (c : Nat) (x : V) (w : World) (hr : VReads w w.heap.size A [x]) :
    Calls Tryz.prog 193 #[.slice A 1 c] w fun u w' => u = .returned (V.val (truV (x.isE true))) ∧ Below w.heap.size w w' := by
  obtain ⟨b, o, rfl, hb, h0, h1, h2⟩ := hr.one_at
  have HX : Hid (b < (w.alloc (.cells #[.int .i64 0, .int .i64 0, .string ⟨#[]⟩] 27)).heap.size ∧ (w.alloc (.cells #[.int .i64 0, .int .i64 0, .string ⟨#[]⟩] 27)).cell? ⟨b, o, none⟩ = some (.int .i64 x.k) ∧ (w.alloc (.cells #[.int .i64 0, .int .i64 0, .string ⟨#[]⟩] 27)).cell? ⟨b, o + 1, none⟩ = some (.int .i64 x.n) ∧ (w.alloc (.cells #[.int .i64 0, .int .i64 0, .string ⟨#[]⟩] 27)).cell? ⟨b, o + 2, none⟩ = some (.string x.s)) :=
    Lib.hid ⟨by simp; omega, (World.cell?_alloc_lt w _ _ hb).trans h0, (World.cell?_alloc_lt w _ _ hb).trans h1, (World.cell?_alloc_lt w _ _ hb).trans h2⟩
  clear hr h0 h1 h2 hb
  go_enter Tryz.func193, Tryz.ntmps193
  go_upto_region 1 with fail
  refine wp_region_grow (W := (w.alloc (.cells #[.int .i64 0, .int .i64 0, .string ⟨#[]⟩] 27))) 6 [[], [0], [1], [], [2, 3], [4]] [] (fun i u w => match i with | 0 => u = .slice (some ⟨b, o, none⟩) 1 c | 1 => u = .pointer (some ⟨b, o, none⟩) | 2 => u = .agg #[.int .i64 x.k, .int .i64 x.n, .string x.s] | 3 => u = .agg #[.int .i64 2, .int .i64 1, .string ⟨#[]⟩] | 4 => u = .bool (veq x.k x.n x.s 2 1 ⟨#[]⟩) | _ => u = .agg #[.int .i64 2, .int .i64 (b2i (veq x.k x.n x.s 2 1 ⟨#[]⟩)), .string ⟨#[]⟩]) (by kernel_rfl) (by kernel_rfl) ?hD ⟨?o0, ?o1, ?o2, ?o3, ?o4, ?o5, trivial⟩ ?fin
  case hD =>
    intro i u w1 w2 hb hd
    split at hd <;> first | exact hd | exact hd.imp fun g hg => ⟨hg.1, hg.2.below hb hg.2.lt⟩
  case o0 =>
    refine growOne_of (pre := []) rfl ?_
    simp only [fillL, Act.put]
    intro f w' hb hp
    clear hp
    clear hb
    go_wp2_with fail
    exact ⟨Below.refl _ _, rfl, fun h => by simp at h⟩
  case o1 =>
    refine growOne_of (pre := [0]) rfl ?_
    simp only [fillL, Region.dstOf, List.getElem?_toArray, List.getElem?_cons_zero, Option.bind_some, Act.put]
    intro f w' hb hp
    have h0 : f 0 = .slice (some ⟨b, o, none⟩) 1 c := hp 0 (by decide)
    clear hp
    rw [h0]
    clear h0
    clear hb
    go_wp2_with fail
    exact ⟨Below.refl _ _, rfl, fun h => by simp at h⟩
  case o2 =>
    refine growOne_of (pre := [1]) rfl ?_
    simp only [fillL, Region.dstOf, List.getElem?_toArray, List.getElem?_cons_zero, List.getElem?_cons_succ, Option.bind_some, Act.put]
    intro f w' hb hp
    have h1 : f 1 = .pointer (some ⟨b, o, none⟩) := hp 1 (by decide)
    have k0 := (hb.cell (p := ⟨b, o, none⟩) HX.out.1).trans HX.out.2.1
    have k1 := (hb.cell (p := ⟨b, o + 1, none⟩) HX.out.1).trans HX.out.2.2.1
    have k2 := (hb.cell (p := ⟨b, o + 2, none⟩) HX.out.1).trans HX.out.2.2.2
    clear hp
    rw [h1]
    clear h1
    clear hb
    go_wp2_with fail
    exact ⟨Below.refl _ _, rfl, fun h => by simp at h⟩
  case o3 =>
    refine growOne_of (pre := []) rfl ?_
    simp only [fillL, Act.put]
    intro f w' hb hp
    clear hp
    clear hb
    go_wp2_with fail
    refine (truthS_any _ _).mono ?_
    rintro u w9 ⟨rfl, hb9⟩
    have HO := Lib.hid hb9
    clear hb9
    go_wp2_with fail
    exact ⟨HO.out, rfl, fun h => by simp at h⟩
  case o4 =>
    refine growOne_of (pre := [2, 3]) rfl ?_
    simp only [fillL, Region.dstOf, List.getElem?_toArray, List.getElem?_cons_zero, List.getElem?_cons_succ, Option.bind_some, Act.put]
    intro f w' hb hp
    have h2 : f 2 = .agg #[.int .i64 x.k, .int .i64 x.n, .string x.s] := hp 2 (by decide)
    have h3 : f 3 = .agg #[.int .i64 2, .int .i64 1, .string ⟨#[]⟩] := hp 3 (by decide)
    clear hp
    rw [h2, h3]
    clear h2 h3
    clear hb
    have hev := @eqV
    go_wp2_with fail
    exact ⟨Below.refl _ _, rfl, fun h => by simp at h⟩
  case o5 =>
    refine growOne_of (pre := [4]) rfl ?_
    simp only [fillL, Region.dstOf, List.getElem?_toArray, List.getElem?_cons_zero, List.getElem?_cons_succ, Option.bind_some, Act.put]
    intro f w' hb hp
    have h4 : f 4 = .bool (veq x.k x.n x.s 2 1 ⟨#[]⟩) := hp 4 (by decide)
    clear hp
    rw [h4]
    clear h4
    clear hb
    go_wp2_with fail
    refine (truthS_any _ _).mono ?_
    rintro u w9 ⟨rfl, hb9⟩
    have HO := Lib.hid hb9
    clear hb9
    go_wp2_with fail
    exact ⟨HO.out, rfl, fun h => by simp at h⟩
  case fin =>
    intro f w' hb hd _
    have e0 : f 0 = .slice (some ⟨b, o, none⟩) 1 c := hd 0 (by decide)
    have e1 : f 1 = .pointer (some ⟨b, o, none⟩) := hd 1 (by decide)
    have e2 : f 2 = .agg #[.int .i64 x.k, .int .i64 x.n, .string x.s] := hd 2 (by decide)
    have e3 : f 3 = .agg #[.int .i64 2, .int .i64 1, .string ⟨#[]⟩] := hd 3 (by decide)
    have e4 : f 4 = .bool (veq x.k x.n x.s 2 1 ⟨#[]⟩) := hd 4 (by decide)
    have e5 : f 5 = .agg #[.int .i64 2, .int .i64 (b2i (veq x.k x.n x.s 2 1 ⟨#[]⟩)), .string ⟨#[]⟩] := hd 5 (by decide)
    clear hd
    rw [show List.range 6 = [0, 1, 2, 3, 4, 5] from rfl]
    simp only [fillL, Region.dstOf, List.getElem?_toArray, List.getElem?_cons_zero, List.getElem?_cons_succ, Option.bind_some, Act.put]
    rw [e0, e1, e2, e3, e4, e5]
    clear e0 e1 e2 e3 e4 e5
    have hBr : Blk w' w.heap.size 27 #[.int .i64 0, .int .i64 0, .string ⟨#[]⟩] := (Blk.new w 27 #[.int .i64 0, .int .i64 0, .string ⟨#[]⟩]).below hb (Blk.new w 27 #[.int .i64 0, .int .i64 0, .string ⟨#[]⟩]).lt
    have hbw := thn (al (Below.refl w.heap.size w) _) hb
    have f0 := hBr.frozen 0
    have d0 := hBr.cell 0
    have f1 := hBr.frozen 1
    have d1 := hBr.cell 1
    have f2 := hBr.frozen 2
    have d2 := hBr.cell 2
    simp only [List.getElem?_toArray, List.getElem?_cons_succ, List.getElem?_cons_zero] at d0 d1 d2
    clear hb
    go_frame
    go_wp2_with fail
    have HB := hBr.three_set (.int .i64 2) (.int .i64 (b2i (veq x.k x.n x.s 2 1 ⟨#[]⟩))) (.string ⟨#[]⟩)
    obtain ⟨⟨q0, q1, q2⟩, -⟩ := HB.three
    exact bodyPost_ret (v := .agg #[.int .i64 2, .int .i64 (b2i (veq x.k x.n x.s 2 1 ⟨#[]⟩)), .string ⟨#[]⟩]) (by simp [results, Tryz.results193, go_sem, q0, q1, q2]) rfl ⟨rfl, st3 hbw (Nat.le_refl _) _ _ _⟩
set_option maxHeartbeats 2000000 in
set_option maxRecDepth 100000 in
theorem concat1_any (A : Option Addr) (c : Nat) (x y : V) (w : World) (hr : VReads w w.heap.size A [x, y]) (hsx : x.s.size ≤ 200) (hsy : y.s.size ≤ 200) :
    Calls Tryz.prog 178 #[.slice A 2 c] w fun u w' => u = .returned (V.val (txtV (x.s ++ y.s))) ∧ Below w.heap.size w w' := by
  obtain ⟨b, o, x', y', hl, rfl, hb, ⟨-, -, h2⟩, -, -, h5⟩ := hr.two_at rfl
  simp only [List.cons.injEq, and_true] at hl
  obtain ⟨rfl, rfl⟩ := hl
  have HX : Hid (b < (w.alloc (.cells #[.int .i64 0, .int .i64 0, .string ⟨#[]⟩] 27)).heap.size ∧ (w.alloc (.cells #[.int .i64 0, .int .i64 0, .string ⟨#[]⟩] 27)).cell? ⟨b, o + 2, none⟩ = some (.string x.s) ∧ (w.alloc (.cells #[.int .i64 0, .int .i64 0, .string ⟨#[]⟩] 27)).cell? ⟨b, o + 3 + 2, none⟩ = some (.string y.s)) := Lib.hid ⟨by simp; omega, (World.cell?_alloc_lt w _ _ hb).trans h2, (World.cell?_alloc_lt w _ _ hb).trans h5⟩
  clear hr h2 h5 hb
  go_enter Tryz.func178, Tryz.ntmps178
  go_upto_region 1 with fail
  refine wp_region_grow (W := (w.alloc (.cells #[.int .i64 0, .int .i64 0, .string ⟨#[]⟩] 27))) 10 [[], [0], [1], [2], [], [4], [5], [6], [3, 7], [8]] [] (fun i u w => match i with | 0 => u = .slice (some ⟨b, o, none⟩) 2 c | 1 => u = .pointer (some ⟨b, o, none⟩) | 2 => u = .pointer (some ⟨b, o + 2, none⟩) | 3 => u = .string x.s | 4 => u = .slice (some ⟨b, o, none⟩) 2 c | 5 => u = .pointer (some ⟨b, o + 3, none⟩) | 6 => u = .pointer (some ⟨b, o + 3 + 2, none⟩) | 7 => u = .string y.s | 8 => u = .string (x.s ++ y.s) | _ => u = .agg #[.int .i64 3, .int .i64 0, .string (txtV (x.s ++ y.s)).s]) (by kernel_rfl) (by kernel_rfl) ?hD ⟨?o0, ?o1, ?o2, ?o3, ?o4, ?o5, ?o6, ?o7, ?o8, ?o9, trivial⟩ ?fin
  case hD =>
    intro i u w1 w2 hb hd
    split at hd <;> first | exact hd | exact hd.imp fun g hg => ⟨hg.1, hg.2.below hb hg.2.lt⟩
  case o0 =>
    refine growOne_of (pre := []) rfl ?_
    simp only [fillL, Act.put]
    intro f w' hb hp
    clear hp
    clear hb
    go_wp2_with fail
    exact ⟨Below.refl _ _, rfl, fun h => by simp at h⟩
  case o1 =>
    refine growOne_of (pre := [0]) rfl ?_
    simp only [fillL, Region.dstOf, List.getElem?_toArray, List.getElem?_cons_zero, Option.bind_some, Act.put]
    intro f w' hb hp
    have h0 : f 0 = .slice (some ⟨b, o, none⟩) 2 c := hp 0 (by decide)
    clear hp
    rw [h0]
    clear h0
    clear hb
    go_wp2_with fail
    exact ⟨Below.refl _ _, rfl, fun h => by simp at h⟩
  case o2 =>
    refine growOne_of (pre := [1]) rfl ?_
    simp only [fillL, Region.dstOf, List.getElem?_toArray, List.getElem?_cons_zero, List.getElem?_cons_succ, Option.bind_some, Act.put]
    intro f w' hb hp
    have h1 : f 1 = .pointer (some ⟨b, o, none⟩) := hp 1 (by decide)
    clear hp
    rw [h1]
    clear h1
    clear hb
    go_wp2_with fail
    exact ⟨Below.refl _ _, rfl, fun h => by simp at h⟩
  case o3 =>
    refine growOne_of (pre := [2]) rfl ?_
    simp only [fillL, Region.dstOf, List.getElem?_toArray, List.getElem?_cons_zero, List.getElem?_cons_succ, Option.bind_some, Act.put]
    intro f w' hb hp
    have h2 : f 2 = .pointer (some ⟨b, o + 2, none⟩) := hp 2 (by decide)
    have k0 := (hb.cell (p := ⟨b, o + 2, none⟩) HX.out.1).trans HX.out.2.1
    clear hp
    rw [h2]
    clear h2
    clear hb
    go_wp2_with fail
    exact ⟨Below.refl _ _, rfl, fun h => by simp at h⟩
  case o4 =>
    refine growOne_of (pre := []) rfl ?_
    simp only [fillL, Act.put]
    intro f w' hb hp
    clear hp
    clear hb
    go_wp2_with fail
    exact ⟨Below.refl _ _, rfl, fun h => by simp at h⟩
  case o5 =>
    refine growOne_of (pre := [4]) rfl ?_
    simp only [fillL, Region.dstOf, List.getElem?_toArray, List.getElem?_cons_zero, List.getElem?_cons_succ, Option.bind_some, Act.put]
    intro f w' hb hp
    have h4 : f 4 = .slice (some ⟨b, o, none⟩) 2 c := hp 4 (by decide)
    clear hp
    rw [h4]
    clear h4
    clear hb
    go_wp2_with fail
    exact ⟨Below.refl _ _, rfl, fun h => by simp at h⟩
  case o6 =>
    refine growOne_of (pre := [5]) rfl ?_
    simp only [fillL, Region.dstOf, List.getElem?_toArray, List.getElem?_cons_zero, List.getElem?_cons_succ, Option.bind_some, Act.put]
    intro f w' hb hp
    have h5 : f 5 = .pointer (some ⟨b, o + 3, none⟩) := hp 5 (by decide)
    clear hp
    rw [h5]
    clear h5
    clear hb
    go_wp2_with fail
    exact ⟨Below.refl _ _, rfl, fun h => by simp at h⟩
  case o7 =>
    refine growOne_of (pre := [6]) rfl ?_
    simp only [fillL, Region.dstOf, List.getElem?_toArray, List.getElem?_cons_zero, List.getElem?_cons_succ, Option.bind_some, Act.put]
    intro f w' hb hp
    have h6 : f 6 = .pointer (some ⟨b, o + 3 + 2, none⟩) := hp 6 (by decide)
    have k0 := (hb.cell (p := ⟨b, o + 3 + 2, none⟩) HX.out.1).trans HX.out.2.2
    clear hp
    rw [h6]
    clear h6
    clear hb
    go_wp2_with fail
    exact ⟨Below.refl _ _, rfl, fun h => by simp at h⟩
  case o8 =>
    refine growOne_of (pre := [3, 7]) rfl ?_
    simp only [fillL, Region.dstOf, List.getElem?_toArray, List.getElem?_cons_zero, List.getElem?_cons_succ, Option.bind_some, Act.put]
    intro f w' hb hp
    have h3 : f 3 = .string x.s := hp 3 (by decide)
    have h7 : f 7 = .string y.s := hp 7 (by decide)
    clear hp
    rw [h3, h7]
    clear h3 h7
    clear hb
    go_wp2_with fail
    exact ⟨Below.refl _ _, rfl, fun h => by simp at h⟩
  case o9 =>
    refine growOne_of (pre := [8]) rfl ?_
    simp only [fillL, Region.dstOf, List.getElem?_toArray, List.getElem?_cons_zero, List.getElem?_cons_succ, Option.bind_some, Act.put]
    intro f w' hb hp
    have h8 : f 8 = .string (x.s ++ y.s) := hp 8 (by decide)
    clear hp
    rw [h8]
    clear h8
    clear hb
    go_wp2_with fail
    refine (textS_any _ _).mono ?_
    rintro u w9 ⟨rfl, hb9⟩
    have HO := Lib.hid hb9
    clear hb9
    go_wp2_with fail
    exact ⟨HO.out, rfl, fun h => by simp at h⟩
  case fin =>
    intro f w' hb hd _
    have e0 : f 0 = .slice (some ⟨b, o, none⟩) 2 c := hd 0 (by decide)
    have e1 : f 1 = .pointer (some ⟨b, o, none⟩) := hd 1 (by decide)
    have e2 : f 2 = .pointer (some ⟨b, o + 2, none⟩) := hd 2 (by decide)
    have e3 : f 3 = .string x.s := hd 3 (by decide)
    have e4 : f 4 = .slice (some ⟨b, o, none⟩) 2 c := hd 4 (by decide)
    have e5 : f 5 = .pointer (some ⟨b, o + 3, none⟩) := hd 5 (by decide)
    have e6 : f 6 = .pointer (some ⟨b, o + 3 + 2, none⟩) := hd 6 (by decide)
    have e7 : f 7 = .string y.s := hd 7 (by decide)
    have e8 : f 8 = .string (x.s ++ y.s) := hd 8 (by decide)
    have e9 : f 9 = .agg #[.int .i64 3, .int .i64 0, .string (txtV (x.s ++ y.s)).s] := hd 9 (by decide)
    clear hd
    rw [show List.range 10 = [0, 1, 2, 3, 4, 5, 6, 7, 8, 9] from rfl]
    simp only [fillL, Region.dstOf, List.getElem?_toArray, List.getElem?_cons_zero, List.getElem?_cons_succ, Option.bind_some, Act.put]
    rw [e0, e1, e2, e3, e4, e5, e6, e7, e8, e9]
    clear e0 e1 e2 e3 e4 e5 e6 e7 e8 e9
    have hBr : Blk w' w.heap.size 27 #[.int .i64 0, .int .i64 0, .string ⟨#[]⟩] := (Blk.new w 27 #[.int .i64 0, .int .i64 0, .string ⟨#[]⟩]).below hb (Blk.new w 27 #[.int .i64 0, .int .i64 0, .string ⟨#[]⟩]).lt
    have hbw := thn (al (Below.refl w.heap.size w) _) hb
    have f0 := hBr.frozen 0
    have d0 := hBr.cell 0
    have f1 := hBr.frozen 1
    have d1 := hBr.cell 1
    have f2 := hBr.frozen 2
    have d2 := hBr.cell 2
    simp only [List.getElem?_toArray, List.getElem?_cons_succ, List.getElem?_cons_zero] at d0 d1 d2
    clear hb
    go_frame
    go_wp2_with fail
    have HB := hBr.three_set (.int .i64 3) (.int .i64 0) (.string (txtV (x.s ++ y.s)).s)
    obtain ⟨⟨q0, q1, q2⟩, -⟩ := HB.three
    exact bodyPost_ret (v := .agg #[.int .i64 3, .int .i64 0, .string (txtV (x.s ++ y.s)).s]) (by simp [results, Tryz.results178, go_sem, q0, q1, q2]) rfl ⟨rfl, st3 hbw (Nat.le_refl _) _ _ _⟩
theorem arith1_any (a b : Int) (w : World) : Calls Tryz.prog 170 #[.int .i64 a, .int .i64 b] w fun u w' => u = .returned (.int .i64 (wrap64 (a + b))) ∧ w = w' := by
  go_enter Tryz.func170, Tryz.ntmps170
  go_wp2_with fail
  go_ret
  exact ⟨rfl, rfl⟩
theorem arith2_any (a b : Int) (w : World) : Calls Tryz.prog 171 #[.int .i64 a, .int .i64 b] w fun u w' => u = .returned (.int .i64 (wrap64 (a - b))) ∧ w = w' := by
  go_enter Tryz.func171, Tryz.ntmps171
  go_wp2_with fail
  go_ret
  exact ⟨rfl, rfl⟩
theorem arith3_any (a b : Int) (w : World) : Calls Tryz.prog 172 #[.int .i64 a, .int .i64 b] w fun u w' => u = .returned (.int .i64 (wrap64 (a * b))) ∧ w = w' := by
  go_enter Tryz.func172, Tryz.ntmps172
  go_wp2_with fail
  go_ret
  exact ⟨rfl, rfl⟩
theorem arith4_any (a b : Int) (w : World) (hb : b ≠ 0) : Calls Tryz.prog 174 #[.int .i64 a, .int .i64 b] w fun u w' => u = .returned (.int .i64 (wrap64 (a.tdiv b))) ∧ w = w' := by
  go_enter Tryz.func174, Tryz.ntmps174
  go_wp2_with fail
  go_ret
  exact ⟨rfl, rfl⟩
theorem arith5_any (a b : Int) (w : World) (hb : b ≠ 0) : Calls Tryz.prog 175 #[.int .i64 a, .int .i64 b] w fun u w' => u = .returned (.int .i64 (a.tmod b)) ∧ w = w' := by
  go_enter Tryz.func175, Tryz.ntmps175
  go_wp2_with fail
  go_ret
  exact ⟨rfl, rfl⟩
theorem cmp9_any (n : Int) (w : World) : Calls Tryz.prog 182 #[.int .i64 n] w fun u w' => u = .returned (.bool (n == 0)) ∧ w = w' := by
  go_enter Tryz.func182, Tryz.ntmps182
  go_wp2_with fail
  go_ret
  exact ⟨rfl, rfl⟩
theorem cmp10_any (n : Int) (w : World) : Calls Tryz.prog 183 #[.int .i64 n] w fun u w' => u = .returned (.bool (n != 0)) ∧ w = w' := by
  go_enter Tryz.func183, Tryz.ntmps183
  go_wp2_with fail
  go_ret
  exact ⟨rfl, rfl⟩
theorem cmp11_any (n : Int) (w : World) : Calls Tryz.prog 184 #[.int .i64 n] w fun u w' => u = .returned (.bool (decide (n < 0))) ∧ w = w' := by
  go_enter Tryz.func184, Tryz.ntmps184
  go_wp2_with fail
  go_ret
  exact ⟨rfl, rfl⟩
theorem cmp12_any (n : Int) (w : World) : Calls Tryz.prog 185 #[.int .i64 n] w fun u w' => u = .returned (.bool (decide (n ≤ 0))) ∧ w = w' := by
  go_enter Tryz.func185, Tryz.ntmps185
  go_wp2_with fail
  go_ret
  exact ⟨rfl, rfl⟩
theorem cmp13_any (n : Int) (w : World) : Calls Tryz.prog 186 #[.int .i64 n] w fun u w' => u = .returned (.bool (decide (0 < n))) ∧ w = w' := by
  go_enter Tryz.func186, Tryz.ntmps186
  go_wp2_with fail
  go_ret
  exact ⟨rfl, rfl⟩
theorem cmp14_any (n : Int) (w : World) : Calls Tryz.prog 187 #[.int .i64 n] w fun u w' => u = .returned (.bool (decide (0 ≤ n))) ∧ w = w' := by
  go_enter Tryz.func187, Tryz.ntmps187
  go_wp2_with fail
  go_ret
  exact ⟨rfl, rfl⟩
end Go.Proofs.YtdiehgfldndgbaaGreatDoor
namespace Go.Proofs.YtdiehgfldndgbaaGreatDoor
open Go.RowKit

/-- a closure that captured one variable, which holds a function -/
def clos (w : World) (K : FuncId) (T : TypeId) (f : FuncId) (v : Value) : Prop := ∃ g, v = .func (.func K) #[] #[.pointer (some ⟨g, 0, none⟩)] ∧ Blk w g T #[fnV f]
theorem clos.kept {w w' : World} {K : FuncId} {T : TypeId} {f : FuncId} {v : Value} {b : Nat} (h : clos w K T f v) (hb : ∀ i, i < w.heap.size → i ≠ b → w'.heap[i]? = w.heap[i]?) (hm : ∀ es cl, w.heap[b]? = some (.map es cl) ∨ w.heap.size ≤ b) : clos w' K T f v := by
  obtain ⟨g, hv, hB⟩ := h
  refine ⟨g, hv, ?_⟩
  have hne : g ≠ b := by
    intro e
    subst e
    rcases hm #[] 0 with h | h
    · unfold Blk at hB
      rw [hB] at h; cases h
    · have := hB.lt; omega
  exact (hb g hB.lt hne).trans hB
/-- v is what operationOf gives of the operation m -/
def OpFn (w : World) (m : Nat) (v : Value) : Prop :=
  match m with
  | 4 => clos w 233 217 170 v
  | 5 => clos w 233 217 171 v
  | 6 => clos w 233 217 172 v
  | 7 => clos w 234 217 174 v
  | 8 => clos w 234 217 175 v
  | 9 => v = fnV 176
  | 10 => v = fnV 178
  | 11 => v = fnV 180
  | 12 => clos w 235 101 182 v
  | 13 => clos w 235 101 183 v
  | 14 => clos w 235 101 184 v
  | 15 => clos w 235 101 185 v
  | 16 => clos w 235 101 186 v
  | 17 => clos w 235 101 187 v
  | 18 => clos w 235 101 182 v
  | 19 => clos w 237 220 189 v
  | 20 => clos w 237 220 190 v
  | 21 => v = fnV 191
  | 22 => v = fnV 192
  | 23 => v = fnV 193
  | 24 => v = fnV 194
  | 25 => v = fnV 195
  | _ => False
theorem calculates_any (K : FuncId) (w : World) : Calls Tryz.prog 169 #[fnV K] w fun x w' => ∃ v, x = .returned v ∧ clos w' 233 217 K v ∧ Below w.heap.size w w' := by
  have hmf : ∀ (fn : Fn) (first cap : Array Value) (w : World), (Instr.makeFunc fn first cap).run Tryz.prog w = .ok (.func fn first cap) w := fun _ _ _ _ => rfl
  go_enter Tryz.func169, Tryz.ntmps169
  go_wp2_with fail
  go_ret
  exact ⟨_, rfl, ⟨w.heap.size, rfl, Blk.new _ _ _⟩, al (Below.refl _ _) _⟩
theorem divides_any (K : FuncId) (w : World) : Calls Tryz.prog 173 #[fnV K] w fun x w' => ∃ v, x = .returned v ∧ clos w' 234 217 K v ∧ Below w.heap.size w w' := by
  have hmf : ∀ (fn : Fn) (first cap : Array Value) (w : World), (Instr.makeFunc fn first cap).run Tryz.prog w = .ok (.func fn first cap) w := fun _ _ _ _ => rfl
  go_enter Tryz.func173, Tryz.ntmps173
  go_wp2_with fail
  go_ret
  exact ⟨_, rfl, ⟨w.heap.size, rfl, Blk.new _ _ _⟩, al (Below.refl _ _) _⟩
theorem compares_any (K : FuncId) (w : World) : Calls Tryz.prog 181 #[fnV K] w fun x w' => ∃ v, x = .returned v ∧ clos w' 235 101 K v ∧ Below w.heap.size w w' := by
  have hmf : ∀ (fn : Fn) (first cap : Array Value) (w : World), (Instr.makeFunc fn first cap).run Tryz.prog w = .ok (.func fn first cap) w := fun _ _ _ _ => rfl
  go_enter Tryz.func181, Tryz.ntmps181
  go_wp2_with fail
  go_ret
  exact ⟨_, rfl, ⟨w.heap.size, rfl, Blk.new _ _ _⟩, al (Below.refl _ _) _⟩
theorem holds_any (K : FuncId) (w : World) : Calls Tryz.prog 188 #[fnV K] w fun x w' => ∃ v, x = .returned v ∧ clos w' 237 220 K v ∧ Below w.heap.size w w' := by
  have hmf : ∀ (fn : Fn) (first cap : Array Value) (w : World), (Instr.makeFunc fn first cap).run Tryz.prog w = .ok (.func fn first cap) w := fun _ _ _ _ => rfl
  go_enter Tryz.func188, Tryz.ntmps188
  go_wp2_with fail
  go_ret
  exact ⟨_, rfl, ⟨w.heap.size, rfl, Blk.new _ _ _⟩, al (Below.refl _ _) _⟩
set_option maxHeartbeats 8000000 in
set_option maxRecDepth 100000 in
theorem operationOf_any (m : Nat) (w : World) (h4 : 4 ≤ m) (h25 : m ≤ 25) : Calls Tryz.prog 123 #[.int .i64 (m : Nat)] w fun x w' => ∃ v, x = .returned v ∧ OpFn w' m v ∧ Below w.heap.size w w' := by
  have : m = 4 ∨ m = 5 ∨ m = 6 ∨ m = 7 ∨ m = 8 ∨ m = 9 ∨ m = 10 ∨ m = 11 ∨ m = 12 ∨ m = 13 ∨ m = 14 ∨ m = 15 ∨ m = 16 ∨ m = 17 ∨ m = 18 ∨ m = 19 ∨ m = 20 ∨ m = 21 ∨ m = 22 ∨ m = 23 ∨ m = 24 ∨ m = 25 := by omega
  clear h4 h25
  rcases this with rfl | rfl | rfl | rfl | rfl | rfl | rfl | rfl | rfl | rfl | rfl | rfl | rfl | rfl | rfl | rfl | rfl | rfl | rfl | rfl | rfl | rfl
  · go_enter Tryz.func123, Tryz.ntmps123
    go_wp2_with fail
    refine (calculates_any 170 _).mono ?_
    rintro x w2 ⟨v, rfl, hc, hb⟩
    have HC := Lib.hid (And.intro hc hb)
    clear hc hb
    go_wp2_with fail
    go_ret
    exact ⟨v, rfl, HC.out.1, HC.out.2⟩
  · go_enter Tryz.func123, Tryz.ntmps123
    go_wp2_with fail
    refine (calculates_any 171 _).mono ?_
    rintro x w2 ⟨v, rfl, hc, hb⟩
    have HC := Lib.hid (And.intro hc hb)
    clear hc hb
    go_wp2_with fail
    go_ret
    exact ⟨v, rfl, HC.out.1, HC.out.2⟩
  · go_enter Tryz.func123, Tryz.ntmps123
    go_wp2_with fail
    refine (calculates_any 172 _).mono ?_
    rintro x w2 ⟨v, rfl, hc, hb⟩
    have HC := Lib.hid (And.intro hc hb)
    clear hc hb
    go_wp2_with fail
    go_ret
    exact ⟨v, rfl, HC.out.1, HC.out.2⟩
  · go_enter Tryz.func123, Tryz.ntmps123
    go_wp2_with fail
    refine (divides_any 174 _).mono ?_
    rintro x w2 ⟨v, rfl, hc, hb⟩
    have HC := Lib.hid (And.intro hc hb)
    clear hc hb
    go_wp2_with fail
    go_ret
    exact ⟨v, rfl, HC.out.1, HC.out.2⟩
  · go_enter Tryz.func123, Tryz.ntmps123
    go_wp2_with fail
    refine (divides_any 175 _).mono ?_
    rintro x w2 ⟨v, rfl, hc, hb⟩
    have HC := Lib.hid (And.intro hc hb)
    clear hc hb
    go_wp2_with fail
    go_ret
    exact ⟨v, rfl, HC.out.1, HC.out.2⟩
  · go_enter Tryz.func123, Tryz.ntmps123
    go_wp2_with fail
    go_ret
    exact ⟨_, rfl, rfl, Below.refl _ _⟩
  · go_enter Tryz.func123, Tryz.ntmps123
    go_wp2_with fail
    go_ret
    exact ⟨_, rfl, rfl, Below.refl _ _⟩
  · go_enter Tryz.func123, Tryz.ntmps123
    go_wp2_with fail
    go_ret
    exact ⟨_, rfl, rfl, Below.refl _ _⟩
  · go_enter Tryz.func123, Tryz.ntmps123
    go_wp2_with fail
    refine (compares_any 182 _).mono ?_
    rintro x w2 ⟨v, rfl, hc, hb⟩
    have HC := Lib.hid (And.intro hc hb)
    clear hc hb
    go_wp2_with fail
    go_ret
    exact ⟨v, rfl, HC.out.1, HC.out.2⟩
  · go_enter Tryz.func123, Tryz.ntmps123
    go_wp2_with fail
    refine (compares_any 183 _).mono ?_
    rintro x w2 ⟨v, rfl, hc, hb⟩
    have HC := Lib.hid (And.intro hc hb)
    clear hc hb
    go_wp2_with fail
    go_ret
    exact ⟨v, rfl, HC.out.1, HC.out.2⟩
  · go_enter Tryz.func123, Tryz.ntmps123
    go_wp2_with fail
    refine (compares_any 184 _).mono ?_
    rintro x w2 ⟨v, rfl, hc, hb⟩
    have HC := Lib.hid (And.intro hc hb)
    clear hc hb
    go_wp2_with fail
    go_ret
    exact ⟨v, rfl, HC.out.1, HC.out.2⟩
  · go_enter Tryz.func123, Tryz.ntmps123
    go_wp2_with fail
    refine (compares_any 185 _).mono ?_
    rintro x w2 ⟨v, rfl, hc, hb⟩
    have HC := Lib.hid (And.intro hc hb)
    clear hc hb
    go_wp2_with fail
    go_ret
    exact ⟨v, rfl, HC.out.1, HC.out.2⟩
  · go_enter Tryz.func123, Tryz.ntmps123
    go_wp2_with fail
    refine (compares_any 186 _).mono ?_
    rintro x w2 ⟨v, rfl, hc, hb⟩
    have HC := Lib.hid (And.intro hc hb)
    clear hc hb
    go_wp2_with fail
    go_ret
    exact ⟨v, rfl, HC.out.1, HC.out.2⟩
  · go_enter Tryz.func123, Tryz.ntmps123
    go_wp2_with fail
    refine (compares_any 187 _).mono ?_
    rintro x w2 ⟨v, rfl, hc, hb⟩
    have HC := Lib.hid (And.intro hc hb)
    clear hc hb
    go_wp2_with fail
    go_ret
    exact ⟨v, rfl, HC.out.1, HC.out.2⟩
  · go_enter Tryz.func123, Tryz.ntmps123
    go_wp2_with fail
    refine (compares_any 182 _).mono ?_
    rintro x w2 ⟨v, rfl, hc, hb⟩
    have HC := Lib.hid (And.intro hc hb)
    clear hc hb
    go_wp2_with fail
    go_ret
    exact ⟨v, rfl, HC.out.1, HC.out.2⟩
  · go_enter Tryz.func123, Tryz.ntmps123
    go_wp2_with fail
    refine (holds_any 189 _).mono ?_
    rintro x w2 ⟨v, rfl, hc, hb⟩
    have HC := Lib.hid (And.intro hc hb)
    clear hc hb
    go_wp2_with fail
    go_ret
    exact ⟨v, rfl, HC.out.1, HC.out.2⟩
  · go_enter Tryz.func123, Tryz.ntmps123
    go_wp2_with fail
    refine (holds_any 190 _).mono ?_
    rintro x w2 ⟨v, rfl, hc, hb⟩
    have HC := Lib.hid (And.intro hc hb)
    clear hc hb
    go_wp2_with fail
    go_ret
    exact ⟨v, rfl, HC.out.1, HC.out.2⟩
  · go_enter Tryz.func123, Tryz.ntmps123
    go_wp2_with fail
    go_ret
    exact ⟨_, rfl, rfl, Below.refl _ _⟩
  · go_enter Tryz.func123, Tryz.ntmps123
    go_wp2_with fail
    go_ret
    exact ⟨_, rfl, rfl, Below.refl _ _⟩
  · go_enter Tryz.func123, Tryz.ntmps123
    go_wp2_with fail
    go_ret
    exact ⟨_, rfl, rfl, Below.refl _ _⟩
  · go_enter Tryz.func123, Tryz.ntmps123
    go_wp2_with fail
    go_ret
    exact ⟨_, rfl, rfl, Below.refl _ _⟩
  · go_enter Tryz.func123, Tryz.ntmps123
    go_wp2_with fail
    go_ret
    exact ⟨_, rfl, rfl, Below.refl _ _⟩
end Go.Proofs.YtdiehgfldndgbaaGreatDoor
namespace Go.Proofs.YtdiehgfldndgbaaGreatDoor
open Go.RowKit

/-- an element, as it stands -/
def RV (v : Value) : Option (DataW Value × List MemPlace) := some (.held v, [])
/-- block b is a map that holds F at each operation (nil where it has none) -/
def MapF (w : World) (b n : Nat) (F : Int → Value) : Prop := ∃ D : DataW Value, w.ownsMap Tryz.prog 24 RV b n D ∧ ∀ op, D.atKey (.int .i64 op) (.held .nilFunc) = .held (F op)
theorem MapF.kept {w w' : World} {b n : Nat} {F : Int → Value} (h : MapF w b n F) {row : Option Nat} (hg : w.grownBy w' row) (hne : some b ≠ row) : MapF w' b n F := by
  obtain ⟨D, h1, h2⟩ := h
  exact ⟨D, h1.kept hg hne, h2⟩
theorem MapF.below {w w' : World} {b n : Nat} {F : Int → Value} (h : MapF w b n F) (hb : Below w.heap.size w w') : MapF w' b n F := h.kept (row := none) ⟨hb.os, hb.tape, hb.output, hb.size, fun i hi _ => hb.block i hi⟩ (by simp)
theorem MapF.lt {w : World} {b n : Nat} {F : Int → Value} (h : MapF w b n F) : b < w.heap.size := by
  obtain ⟨D, h1, _⟩ := h
  exact h1.lt
theorem MapF.isMap {w : World} {b n : Nat} {F : Int → Value} (h : MapF w b n F) : ∃ es cl, w.heap[b]? = some (.map es cl) := by
  obtain ⟨D, ⟨es, cl, h1, _⟩, _⟩ := h
  exact ⟨es, cl, h1⟩
theorem wf_nat (m : Nat) (h : m ≤ 1000) : (Lit.int .i64 (m : Int)).wf = true := by
  simp [Lit.wf, IntKind.min, IntKind.max, IntKind.signed, IntKind.bits]
  omega
theorem keyM (m : Nat) (h : m ≤ 1000) : keyOf Tryz.prog 24 (.int .i64 (m : Int)) = some (.int .i64 (m : Int)) := Maps.keyOf_int_mk Tryz.underlying24 (wf_nat m h)
theorem MapF.lookup {w : World} {b n : Nat} {F : Int → Value} (h : MapF w b n F) (m : Nat) (hm : m ≤ 1000) : (Instr.lookup 122 (.map (some b)) (.int .i64 (m : Int)) false).run Tryz.prog w = .ok (F m) w := by
  obtain ⟨D, h1, h2⟩ := h
  obtain ⟨v, ps, hrun, hv⟩ := h1.lookup (Maps.int_keyed Tryz.underlying24) Tryz.underlying122 (Tryz.zeroValue170 _) rfl (keyM m hm)
  refine hrun.trans ?_
  clear hrun
  have h3 := h2 m
  unfold RV at hv
  injection hv with hv
  injection hv with hv _
  rw [h3] at hv
  injection hv with hv
  rw [hv]
theorem ownsMapV_isMap {w : World} {P : Program} {k : TypeId} {R : Value → Option (DataW Value × List MemPlace)} {b n : Nat} {D : DataW Value} (h : w.ownsMap P k R b n D) : Maps.IsMap D := by
  obtain ⟨es, clock, _, _, _, e⟩ := h
  exact ⟨_, e⟩
/-- with one more -/
theorem MapF.put {w w' : World} {b n m : Nat} {F : Int → Value} {D : DataW Value} {v : Value} (h1 : w.ownsMap Tryz.prog 24 RV b n D) (h2 : ∀ op, D.atKey (.int .i64 op) (.held .nilFunc) = .held (F op)) (h3 : w'.ownsMap Tryz.prog 24 RV b (n + 1) (D.put (.int .i64 (m : Int)) (.held v))) :
    MapF w' b (n + 1) fun op => if op = m then v else F op := by
  refine ⟨_, h3, fun op => ?_⟩
  by_cases e : op = m
  · subst e
    rw [Maps.atKey_put_same (k := .int .i64 (m : Int)) (ownsMapV_isMap h1) (by simp [WideAt.IsKeyLit])]
    show DataW.held v = DataW.held (if (m : Int) = m then v else F m)
    rw [if_pos rfl]
  · rw [Maps.atKey_put_other (fun h => e (by injection h)), h2]
    show DataW.held (F op) = DataW.held (if op = m then v else F op)
    rw [if_neg e]
/-- a map that has what these operations do -/
def Good (w : World) (b n : Nat) (S : List Nat) : Prop := ∃ F, MapF w b n F ∧ ∀ m ∈ S, OpFn w m (F m)
theorem OpFn.but {w w' : World} {m b : Nat} {v : Value} (h : OpFn w m v) (hb : But b w w') (hm : ∃ es cl, w.heap[b]? = some (.map es cl)) : OpFn w' m v := by
  obtain ⟨es, cl, hm⟩ := hm
  have key : ∀ {K : FuncId} {T : TypeId} {f : FuncId} {v : Value}, clos w K T f v → clos w' K T f v := fun ⟨g, hv, hB⟩ => ⟨g, hv, by
    have hne : g ≠ b := by
      intro e
      subst e
      unfold Blk at hB
      rw [hm] at hB; cases hB
    exact (hb.block g hB.lt (fun e => hne (by injection e))).trans hB⟩
  unfold OpFn at h ⊢
  split at h <;> first | exact key h | exact h | exact h.elim
theorem OpFn.below {w w' : World} {m : Nat} {v : Value} (h : OpFn w m v) (hb : Below w.heap.size w w') : OpFn w' m v := by
  have key : ∀ {K : FuncId} {T : TypeId} {f : FuncId} {v : Value}, clos w K T f v → clos w' K T f v := fun ⟨g, hv, hB⟩ => ⟨g, hv, hB.below hb hB.lt⟩
  unfold OpFn at h ⊢
  split at h <;> first | exact key h | exact h | exact h.elim
theorem Good.below {w w' : World} {b n : Nat} {S : List Nat} (h : Good w b n S) (hb : Below w.heap.size w w') : Good w' b n S := by
  obtain ⟨F, h1, h2⟩ := h
  exact ⟨F, h1.below hb, fun m hm => (h2 m hm).below hb⟩
theorem Good.mono {w : World} {b n : Nat} {S S' : List Nat} (h : Good w b n S) (hs : ∀ m ∈ S', m ∈ S) : Good w b n S' := by
  obtain ⟨F, h1, h2⟩ := h
  exact ⟨F, h1, fun m hm => h2 m (hs m hm)⟩
mutual
/-- the operations of the nodes with arguments -/
def opsE : E → List Nat
  | .mk op _ _ _ _ args _ => (if args.length = 0 then [] else [op.toNat]) ++ opsL args
def opsL : List E → List Nat
  | [] => []
  | e :: l => opsE e ++ opsL l
end
theorem opsE_of (e : E) : opsE e = (if e.args.length = 0 then [] else [e.op.toNat]) ++ opsL e.args := by cases e; rw [opsE]; rfl
theorem opsL_mem : ∀ {l : List E} {e : E}, e ∈ l → ∀ m ∈ opsE e, m ∈ opsL l
  | x :: l, e, h, m, hm => by
    rw [opsL, List.mem_append]
    rcases List.mem_cons.1 h with rfl | h
    · exact .inl hm
    · exact .inr (opsL_mem h m hm)
theorem opsL_take : ∀ (l : List E) (k : Nat) (h : k < l.length), opsL (l.take (k + 1)) = opsL (l.take k) ++ opsE l[k]
  | e :: l, 0, _ => by simp [opsL]
  | e :: l, k + 1, h => by
    simp only [List.take_succ_cons, opsL, List.getElem_cons_succ]
    rw [opsL_take l k (by simpa using h), List.append_assoc]
end Go.Proofs.YtdiehgfldndgbaaGreatDoor
namespace Go.Proofs.YtdiehgfldndgbaaGreatDoor
open Go.RowKit

set_option maxHeartbeats 2000000 in
set_option maxRecDepth 100000 in
theorem div1_any (K : FuncId) (fx : Int → Int → Int) (g : Nat) (A : Option Addr) (c : Nat) (x y : V) (w : World) (hB : Blk w g 217 #[fnV K]) (heg : ∀ args W, (callFunc K args).run Tryz.prog W = .ok (.enter K args) W)
    (hf : ∀ a b w1, b ≠ 0 → Calls Tryz.prog K #[.int .i64 a, .int .i64 b] w1 fun u w' => u = .returned (.int .i64 (fx a b)) ∧ w1 = w') (hr : VReads w w.heap.size A [x, y]) :
    Calls Tryz.prog 234 #[.slice A 2 c, .pointer (some ⟨g, 0, none⟩)] w fun u w' => u = .returned (V.val (if y.n = 0 then zV else numX (fx x.n y.n))) ∧ Below w.heap.size w w' := by
  obtain ⟨b, o, x', y', hl, rfl, hb, ⟨-, h1, -⟩, -, h4, -⟩ := hr.two_at rfl
  simp only [List.cons.injEq, and_true] at hl
  obtain ⟨rfl, rfl⟩ := hl
  have HG : Hid (Blk (w.alloc (.cells #[.int .i64 0, .int .i64 0, .string ⟨#[]⟩] 27)) g 217 #[fnV K]) := Lib.hid (hB.alloc _)
  have HX : Hid (b < (w.alloc (.cells #[.int .i64 0, .int .i64 0, .string ⟨#[]⟩] 27)).heap.size ∧ (w.alloc (.cells #[.int .i64 0, .int .i64 0, .string ⟨#[]⟩] 27)).cell? ⟨b, o + 1, none⟩ = some (.int .i64 x.n) ∧ (w.alloc (.cells #[.int .i64 0, .int .i64 0, .string ⟨#[]⟩] 27)).cell? ⟨b, o + 3 + 1, none⟩ = some (.int .i64 y.n)) := Lib.hid ⟨by simp; omega, (World.cell?_alloc_lt w _ _ hb).trans h1, (World.cell?_alloc_lt w _ _ hb).trans h4⟩
  by_cases hy : y.n = 0
  · have HR : Hid ((if y.n = 0 then zV else numX (fx x.n y.n)) = zV) := Lib.hid (if_pos hy)
    have z4 : w.cell? ⟨b, o + 3 + 1, none⟩ = some (.int .i64 0) := by rw [h4, hy]
    rw [HR.out]
    clear hB hf hr h1 h4 hy HR
    go_enter Tryz.func234, Tryz.ntmps234
    go_wp2_with fail
    exact bodyPost_ret (v := .agg #[.int .i64 0, .int .i64 0, .string ⟨#[]⟩]) (by simp [results, Tryz.results234, go_sem]) rfl ⟨rfl, al (Below.refl _ _) _⟩
  · have HR : Hid ((if y.n = 0 then zV else numX (fx x.n y.n)) = numX (fx x.n y.n)) := Lib.hid (if_neg hy)
    have z4 := h4
    have hy0 : (y.n == 0) = false := beq_eq_false_iff_ne.2 hy
    have HF := Lib.hid (fun w1 => hf x.n y.n w1 hy)
    rw [HR.out]
    clear hB hf hr h1 h4 hy HR
    go_enter Tryz.func234, Tryz.ntmps234
    go_upto_region 3 with fail
    clear z4 hy0
    refine wp_region_grow (W := (w.alloc (.cells #[.int .i64 0, .int .i64 0, .string ⟨#[]⟩] 27))) 11 [[], [], [1], [2], [3], [], [5], [6], [7], [0, 4, 8], [9]] [] (fun i u w => match i with | 0 => u = fnV K | 1 => u = .slice (some ⟨b, o, none⟩) 2 c | 2 => u = .pointer (some ⟨b, o, none⟩) | 3 => u = .pointer (some ⟨b, o + 1, none⟩) | 4 => u = .int .i64 x.n | 5 => u = .slice (some ⟨b, o, none⟩) 2 c | 6 => u = .pointer (some ⟨b, o + 3, none⟩) | 7 => u = .pointer (some ⟨b, o + 3 + 1, none⟩) | 8 => u = .int .i64 y.n | 9 => u = .int .i64 (fx x.n y.n) | _ => u = .agg #[.int .i64 1, .int .i64 (fx x.n y.n), .string ⟨#[]⟩]) (by kernel_rfl) (by kernel_rfl) ?hD ⟨?o0, ?o1, ?o2, ?o3, ?o4, ?o5, ?o6, ?o7, ?o8, ?o9, ?o10, trivial⟩ ?fin
    case hD =>
      intro i u w1 w2 hb hd
      split at hd <;> first | exact hd | exact hd.imp fun g hg => ⟨hg.1, hg.2.below hb hg.2.lt⟩
    case o0 =>
      refine growOne_of (pre := []) rfl ?_
      simp only [fillL, Act.put]
      intro f w' hb hp
      have k0 := (hb.cell (p := ⟨g, 0, none⟩) HG.out.lt).trans (HG.out.cell 0)
      simp only [List.getElem?_toArray, List.getElem?_cons_zero] at k0
      clear hp
      clear hb
      go_wp2_with fail
      exact ⟨Below.refl _ _, rfl, fun h => by simp at h⟩
    case o1 =>
      refine growOne_of (pre := []) rfl ?_
      simp only [fillL, Act.put]
      intro f w' hb hp
      clear hp
      clear hb
      go_wp2_with fail
      exact ⟨Below.refl _ _, rfl, fun h => by simp at h⟩
    case o2 =>
      refine growOne_of (pre := [1]) rfl ?_
      simp only [fillL, Region.dstOf, List.getElem?_toArray, List.getElem?_cons_zero, List.getElem?_cons_succ, Option.bind_some, Act.put]
      intro f w' hb hp
      have h1 : f 1 = .slice (some ⟨b, o, none⟩) 2 c := hp 1 (by decide)
      clear hp
      rw [h1]
      clear h1
      clear hb
      go_wp2_with fail
      exact ⟨Below.refl _ _, rfl, fun h => by simp at h⟩
    case o3 =>
      refine growOne_of (pre := [2]) rfl ?_
      simp only [fillL, Region.dstOf, List.getElem?_toArray, List.getElem?_cons_zero, List.getElem?_cons_succ, Option.bind_some, Act.put]
      intro f w' hb hp
      have h2 : f 2 = .pointer (some ⟨b, o, none⟩) := hp 2 (by decide)
      clear hp
      rw [h2]
      clear h2
      clear hb
      go_wp2_with fail
      exact ⟨Below.refl _ _, rfl, fun h => by simp at h⟩
    case o4 =>
      refine growOne_of (pre := [3]) rfl ?_
      simp only [fillL, Region.dstOf, List.getElem?_toArray, List.getElem?_cons_zero, List.getElem?_cons_succ, Option.bind_some, Act.put]
      intro f w' hb hp
      have h3 : f 3 = .pointer (some ⟨b, o + 1, none⟩) := hp 3 (by decide)
      have k0 := (hb.cell (p := ⟨b, o + 1, none⟩) HX.out.1).trans HX.out.2.1
      clear hp
      rw [h3]
      clear h3
      clear hb
      go_wp2_with fail
      exact ⟨Below.refl _ _, rfl, fun h => by simp at h⟩
    case o5 =>
      refine growOne_of (pre := []) rfl ?_
      simp only [fillL, Act.put]
      intro f w' hb hp
      clear hp
      clear hb
      go_wp2_with fail
      exact ⟨Below.refl _ _, rfl, fun h => by simp at h⟩
    case o6 =>
      refine growOne_of (pre := [5]) rfl ?_
      simp only [fillL, Region.dstOf, List.getElem?_toArray, List.getElem?_cons_zero, List.getElem?_cons_succ, Option.bind_some, Act.put]
      intro f w' hb hp
      have h5 : f 5 = .slice (some ⟨b, o, none⟩) 2 c := hp 5 (by decide)
      clear hp
      rw [h5]
      clear h5
      clear hb
      go_wp2_with fail
      exact ⟨Below.refl _ _, rfl, fun h => by simp at h⟩
    case o7 =>
      refine growOne_of (pre := [6]) rfl ?_
      simp only [fillL, Region.dstOf, List.getElem?_toArray, List.getElem?_cons_zero, List.getElem?_cons_succ, Option.bind_some, Act.put]
      intro f w' hb hp
      have h6 : f 6 = .pointer (some ⟨b, o + 3, none⟩) := hp 6 (by decide)
      clear hp
      rw [h6]
      clear h6
      clear hb
      go_wp2_with fail
      exact ⟨Below.refl _ _, rfl, fun h => by simp at h⟩
    case o8 =>
      refine growOne_of (pre := [7]) rfl ?_
      simp only [fillL, Region.dstOf, List.getElem?_toArray, List.getElem?_cons_zero, List.getElem?_cons_succ, Option.bind_some, Act.put]
      intro f w' hb hp
      have h7 : f 7 = .pointer (some ⟨b, o + 3 + 1, none⟩) := hp 7 (by decide)
      have k0 := (hb.cell (p := ⟨b, o + 3 + 1, none⟩) HX.out.1).trans HX.out.2.2
      clear hp
      rw [h7]
      clear h7
      clear hb
      go_wp2_with fail
      exact ⟨Below.refl _ _, rfl, fun h => by simp at h⟩
    case o9 =>
      refine growOne_of (pre := [0, 4, 8]) rfl ?_
      simp only [fillL, Region.dstOf, List.getElem?_toArray, List.getElem?_cons_zero, List.getElem?_cons_succ, Option.bind_some, Act.put]
      intro f w' hb hp
      have h0 : f 0 = fnV K := hp 0 (by decide)
      have h4 : f 4 = .int .i64 x.n := hp 4 (by decide)
      have h8 : f 8 = .int .i64 y.n := hp 8 (by decide)
      clear hp
      rw [h0, h4, h8]
      clear h0 h4 h8
      clear hb
      go_wp2_with fail
      refine (HF.out _).mono ?_
      rintro u w9 ⟨rfl, rfl⟩
      go_wp2_with fail
      exact ⟨Below.refl _ _, rfl, fun h => by simp at h⟩
    case o10 =>
      refine growOne_of (pre := [9]) rfl ?_
      simp only [fillL, Region.dstOf, List.getElem?_toArray, List.getElem?_cons_zero, List.getElem?_cons_succ, Option.bind_some, Act.put]
      intro f w' hb hp
      have h9 : f 9 = .int .i64 (fx x.n y.n) := hp 9 (by decide)
      clear hp
      rw [h9]
      clear h9
      clear hb
      go_wp2_with fail
      refine (numberS_any _ _).mono ?_
      rintro u w9 ⟨rfl, hb9⟩
      have HO := Lib.hid hb9
      clear hb9
      go_wp2_with fail
      exact ⟨HO.out, rfl, fun h => by simp at h⟩
    case fin =>
      intro f w' hb hd _
      have e0 : f 0 = fnV K := hd 0 (by decide)
      have e1 : f 1 = .slice (some ⟨b, o, none⟩) 2 c := hd 1 (by decide)
      have e2 : f 2 = .pointer (some ⟨b, o, none⟩) := hd 2 (by decide)
      have e3 : f 3 = .pointer (some ⟨b, o + 1, none⟩) := hd 3 (by decide)
      have e4 : f 4 = .int .i64 x.n := hd 4 (by decide)
      have e5 : f 5 = .slice (some ⟨b, o, none⟩) 2 c := hd 5 (by decide)
      have e6 : f 6 = .pointer (some ⟨b, o + 3, none⟩) := hd 6 (by decide)
      have e7 : f 7 = .pointer (some ⟨b, o + 3 + 1, none⟩) := hd 7 (by decide)
      have e8 : f 8 = .int .i64 y.n := hd 8 (by decide)
      have e9 : f 9 = .int .i64 (fx x.n y.n) := hd 9 (by decide)
      have e10 : f 10 = .agg #[.int .i64 1, .int .i64 (fx x.n y.n), .string ⟨#[]⟩] := hd 10 (by decide)
      clear hd
      rw [show List.range 11 = [0, 1, 2, 3, 4, 5, 6, 7, 8, 9, 10] from rfl]
      simp only [fillL, Region.dstOf, List.getElem?_toArray, List.getElem?_cons_zero, List.getElem?_cons_succ, Option.bind_some, Act.put]
      rw [e0, e1, e2, e3, e4, e5, e6, e7, e8, e9, e10]
      clear e0 e1 e2 e3 e4 e5 e6 e7 e8 e9 e10
      have hBr : Blk w' w.heap.size 27 #[.int .i64 0, .int .i64 0, .string ⟨#[]⟩] := (Blk.new w 27 #[.int .i64 0, .int .i64 0, .string ⟨#[]⟩]).below hb (Blk.new w 27 #[.int .i64 0, .int .i64 0, .string ⟨#[]⟩]).lt
      have hbw := thn (al (Below.refl w.heap.size w) _) hb
      have f0 := hBr.frozen 0
      have d0 := hBr.cell 0
      have f1 := hBr.frozen 1
      have d1 := hBr.cell 1
      have f2 := hBr.frozen 2
      have d2 := hBr.cell 2
      simp only [List.getElem?_toArray, List.getElem?_cons_succ, List.getElem?_cons_zero] at d0 d1 d2
      clear hb
      go_frame
      go_wp2_with fail
      have HB := hBr.three_set (.int .i64 1) (.int .i64 (fx x.n y.n)) (.string ⟨#[]⟩)
      obtain ⟨⟨q0, q1, q2⟩, -⟩ := HB.three
      exact bodyPost_ret (v := .agg #[.int .i64 1, .int .i64 (fx x.n y.n), .string ⟨#[]⟩]) (by simp [results, Tryz.results234, go_sem, q0, q1, q2]) rfl ⟨rfl, st3 hbw (Nat.le_refl _) _ _ _⟩
end Go.Proofs.YtdiehgfldndgbaaGreatDoor
namespace Go.Proofs.YtdiehgfldndgbaaGreatDoor
open Go.RowKit Go.Deep

theorem shaped_op {d : Nat} {e : E} (h : shapedE d e = true) (ha : e.args ≠ []) : 4 ≤ e.op := by
  cases d with
  | zero => rw [shapedE_zero] at h; cases h
  | succ d =>
    rw [shapedE_succ, Bool.and_eq_true] at h
    obtain ⟨hr, hc⟩ := node_cases h.1
    rcases hc with ⟨h1, _, h2⟩ | ⟨h1, _, _, h2⟩ | ⟨h1, _, _, _, h2⟩ | ⟨h4, _, _⟩
    · exact absurd h2 ha
    · exact absurd h2 ha
    · exact absurd h2 ha
    · exact h4
theorem shaped_arg {d : Nat} {e x : E} (h : shapedE (d + 1) e = true) (hx : x ∈ e.args) : shapedE d x = true := by
  rw [shapedE_succ, Bool.and_eq_true] at h
  exact (shapedL_iff _ _).1 h.2 x hx
/-- the form of what is rebuilt out of leaves -/
theorem shaped_map {f : E → E} : ∀ (d : Nat) (e : E), shapedE d e = true → (∀ x ∈ lvsE e, (f x).node = true ∧ (f x).args = []) → shapedE d (mapE f e) = true
  | 0, e, h, _ => by rw [shapedE_zero] at h; cases h
  | d + 1, e, h, hf => by
    by_cases h0 : e.args = []
    · obtain ⟨h1, h2⟩ := hf _ (by rw [lvsE_leaf e h0]; exact List.mem_singleton.2 rfl)
      rw [mapE_leaf f e h0, shapedE_succ, Bool.and_eq_true]
      refine ⟨h1, ?_⟩
      rw [h2, shapedL]
    · rw [mapE_node f e h0, shapedE_succ, Bool.and_eq_true]
      rw [shapedE_succ, Bool.and_eq_true] at h
      obtain ⟨hr, _⟩ := node_cases h.1
      refine ⟨?_, ?_⟩
      · have hn := h.1
        unfold E.node at hn ⊢
        show nodeB e.op e.n e.m e.kind e.lit (e.args.map (mapE f)).length 0 = true
        rw [List.length_map]
        rw [hr] at hn
        exact hn
      · show shapedL d (e.args.map (mapE f)) = true
        rw [shapedL_iff]
        intro y hy
        obtain ⟨x, hx, rfl⟩ := List.mem_map.1 hy
        exact shaped_map d x ((shapedL_iff _ _).1 h.2 x hx) fun y hy => hf y (lvsE_mem h0 hx hy)
theorem nodes_map {f : E → E} : ∀ (d : Nat) (e : E), shapedE d e = true → (∀ x ∈ lvsE e, (f x).args = []) → nodesE (mapE f e) = nodesE e
  | 0, e, h, _ => by rw [shapedE_zero] at h; cases h
  | d + 1, e, h, hf => by
    by_cases h0 : e.args = []
    · have h2 := hf _ (by rw [lvsE_leaf e h0]; exact List.mem_singleton.2 rfl)
      rw [mapE_leaf f e h0, nodesE_args, nodesE_args e, h2, h0]
    · have key : ∀ l : List E, (∀ x ∈ l, nodesE (mapE f x) = nodesE x) → nodesL (l.map (mapE f)) = nodesL l := by
        intro l
        induction l with
        | nil => intro _; rfl
        | cons a l ih => intro hl; rw [List.map_cons, nodesL, nodesL, hl a (List.mem_cons_self ..), ih fun y hy => hl y (List.mem_cons_of_mem _ hy)]
      rw [mapE_node f e h0, nodesE_args, nodesE_args e]
      show 1 + nodesL (e.args.map (mapE f)) = _
      rw [key e.args fun x hx => nodes_map d x (shaped_arg h hx) fun y hy => hf y (lvsE_mem h0 hx hy)]
/-- a leaf of an expression that has the form -/
theorem lvs_node : ∀ (d : Nat) (e x : E), shapedE d e = true → x ∈ lvsE e → x.node = true ∧ x.args = [] ∧ x.rels = []
  | 0, e, _, h, _ => by rw [shapedE_zero] at h; cases h
  | d + 1, e, x, h, hx => by
    by_cases h0 : e.args = []
    · rw [lvsE_leaf e h0, List.mem_singleton] at hx
      subst hx
      rw [shapedE_succ, Bool.and_eq_true] at h
      obtain ⟨hr, _⟩ := node_cases h.1
      have hn := h.1
      unfold E.node at hn
      rw [h0, hr] at hn
      exact ⟨hn, rfl, rfl⟩
    · obtain ⟨op, n, m, k, lit, args, rels⟩ := e
      cases args with
      | nil => exact absurd rfl h0
      | cons a l =>
        rw [lvsE] at hx
        have key : ∀ q : List E, x ∈ lvsL q → ∃ y ∈ q, x ∈ lvsE y := by
          intro q
          induction q with
          | nil => intro h; rw [lvsL] at h; cases h
          | cons b q ih =>
            intro h
            rw [lvsL] at h
            rcases List.mem_append.1 h with h | h
            · exact ⟨b, List.mem_cons_self .., h⟩
            · obtain ⟨y, h1, h2⟩ := ih h
              exact ⟨y, List.mem_cons_of_mem _ h1, h2⟩
        obtain ⟨y, hy, hxy⟩ := key (a :: l) (by rw [lvsL]; exact hx)
        exact lvs_node d y x (shaped_arg h hy) hxy
end Go.Proofs.YtdiehgfldndgbaaGreatDoor
namespace Go.Proofs.YtdiehgfldndgbaaGreatDoor
open Go.RowKit Go.Deep

/-- a leaf with its column moved -/
def mvF (mv : List Int) (x : E) : E := if x.op = 1 then .mk 1 ((mv[x.n.toNat]?).getD 0) x.m x.kind x.lit x.args x.rels else x
/-- a column that is a leaf -/
theorem col_leaf {x : E} (hn : x.node = true) (h1 : x.op = 1) : ∃ n : Nat, x = .mk 1 n 0 0 ⟨0, 0, ⟨#[]⟩⟩ [] [] := by
  obtain ⟨hr, hc⟩ := node_cases hn
  rcases hc with ⟨_, h0, ha⟩ | ⟨h2, _⟩ | ⟨h3, _⟩ | ⟨h4, _⟩
  · obtain ⟨op, n, m, k, v, args, rels⟩ := x
    change op = 1 at h1
    change 0 ≤ n at h0
    change args = [] at ha
    change rels = [] at hr
    subst h1 ha hr
    unfold E.node nodeB at hn
    simp [E.op, E.n, E.m, E.kind, E.lit, E.args, E.rels] at hn
    obtain ⟨⟨_, hm⟩, hk, hz⟩ := hn
    obtain ⟨vk, vn, vs⟩ := v
    simp [V.isZ] at hz
    obtain ⟨⟨rfl, rfl⟩, hs⟩ := hz
    refine ⟨n.toNat, ?_⟩
    rw [show vs = ⟨#[]⟩ from ByteArray.ext hs, hm, hk, show ((n.toNat : Nat) : Int) = n by omega]
  · omega
  · omega
  · omega
/-- a moved expression has the form -/
theorem moved_form {mv : List Int} {d : Nat} {e : E} (h : shapedE d e = true)
    (hc : ∀ x ∈ lvsE e, x.op = 1 → ∃ t : Nat, mv[x.n.toNat]? = some (t : Int)) : shapedE d (mapE (mvF mv) e) = true ∧ nodesE (mapE (mvF mv) e) = nodesE e := by
  have key : ∀ x ∈ lvsE e, (mvF mv x).node = true ∧ (mvF mv x).args = [] := fun x hx => by
    obtain ⟨hn, ha, _⟩ := lvs_node d e x h hx
    unfold mvF
    by_cases h1 : x.op = 1
    · obtain ⟨t, ht⟩ := hc x hx h1
      obtain ⟨n, rfl⟩ := col_leaf hn h1
      have ht' : mv[((n : Nat) : Int).toNat]? = some (t : Int) := ht
      rw [if_pos h1]
      refine ⟨?_, rfl⟩
      show (E.mk 1 ((mv[((n : Nat) : Int).toNat]?).getD 0) 0 0 ⟨0, 0, ⟨#[]⟩⟩ [] []).node = true
      rw [ht']
      show nodeB 1 t 0 0 ⟨0, 0, ⟨#[]⟩⟩ 0 0 = true
      unfold nodeB
      rw [if_neg (by decide), if_pos (by decide), if_pos (by decide)]
      simp [V.isZ]
    · rw [if_neg h1]
      exact ⟨hn, ha⟩
  exact ⟨shaped_map d e h key, nodes_map d e h fun x hx => (key x hx).2⟩
end Go.Proofs.YtdiehgfldndgbaaGreatDoor
