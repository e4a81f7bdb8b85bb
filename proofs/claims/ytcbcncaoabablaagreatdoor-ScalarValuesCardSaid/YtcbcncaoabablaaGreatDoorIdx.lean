/-
  CONTRACTS over values: Index, ContainsFunc; scalar.isStrict.
-/
import Derived.Test.YtcbcncaoabablaaGreatDoorEcV
import Derived.Test.YtcbcncaoabablaaGreatDoorGA05
import Derived.Test.YtcbcncaoabablaaGreatDoorAft
import Derived.Test.YtcbcncaoabablaaGreatDoorGA20
namespace Go.Proofs.YtcbcncaoabablaaGreatDoor
open Go.RowKit Go.Deep

theorem findIdx_hit {p : V → Bool} : ∀ {l : List V} {k : Nat} (h : k < l.length), (l.take k).any p = false → p l[k] = true → l.findIdx p = k
  | v :: l, 0, _, _, hp => by
    simp only [List.getElem_cons_zero] at hp
    rw [List.findIdx_cons, hp]; rfl
  | v :: l, k + 1, h, ha, hp => by
    rw [List.take_succ_cons, List.any_cons, Bool.or_eq_false_iff] at ha
    rw [List.findIdx_cons, ha.1, findIdx_hit (l := l) (k := k) (by simpa using h) ha.2 (by simpa using hp)]; rfl
theorem findIdx_none {p : V → Bool} : ∀ {l : List V}, l.any p = false → l.findIdx p = l.length
  | [], _ => rfl
  | v :: l, h => by
    rw [List.any_cons, Bool.or_eq_false_iff] at h
    rw [List.findIdx_cons, h.1, findIdx_none h.2]; rfl
/-- the place of the first one, or -1 -/
def idxV (p : V → Bool) (l : List V) : Int := if l.any p = true then (l.findIdx p : Nat) else -1
set_option maxHeartbeats 2000000 in
set_option maxRecDepth 100000 in
theorem Index_val (x : V) (A : Option Addr) (c : Nat) (l : List V) (w : World) (hr : VReads w w.heap.size A l) (hn : l.length ≤ 1000000) :
    Calls Tryz.prog 204 #[.slice A l.length c, .agg #[.int .i64 x.k, .int .i64 x.n, .string x.s]] w fun e w' => e = .returned (.int .i64 (idxV (fun v => veq x.k x.n x.s v.k v.n v.s) l)) ∧ Below w.heap.size w w' := by
  have HR := Lib.hid hr
  have hev := @eqV
  clear hr
  go_enter Tryz.func204, Tryz.ntmps204
  go_wp2_with fail
  have HB0 := Lib.hid (Blk.new w 25 #[.int .i64 x.k, .int .i64 x.n, .string x.s])
  go_loopw [8] (fun iv wr => ∃ j : Nat, j ≤ l.length ∧ iv = .int .i64 j ∧ Hid (Below w.heap.size w wr ∧ Blk wr w.heap.size 25 #[.int .i64 x.k, .int .i64 x.n, .string x.s]) ∧ Hid ((l.take j).any (fun v => veq x.k x.n x.s v.k v.n v.s) = false)) (fun iv _ => l.length - (intOf iv).toNat)
  case atStart => exact ⟨0, Nat.zero_le _, rfl, ⟨al (Below.refl _ _) _, HB0.out⟩, Lib.hid (by simp)⟩
  case round =>
    obtain ⟨j, hj, rfl, HW, HT⟩ := hrel
    by_cases hlt : j < l.length
    · have hlti : (j : Int) < (l.length : Int) := by omega
      obtain ⟨b, o, rfl, hblk, c0, c1, c2⟩ := (HR.out.below HW.out.1 HW.out.1.size).at_ hlt
      have X0 : ∀ y : Aft wr, y.w.cell? ⟨b, o + j * 3, none⟩ = some (.int .i64 l[j].k) := fun y => (y.h.cell (p := ⟨b, _, none⟩) hblk).trans c0
      have X1 : ∀ y : Aft wr, y.w.cell? ⟨b, o + j * 3 + 1, none⟩ = some (.int .i64 l[j].n) := fun y => (y.h.cell (p := ⟨b, _, none⟩) hblk).trans c1
      have X2 : ∀ y : Aft wr, y.w.cell? ⟨b, o + j * 3 + 2, none⟩ = some (.string l[j].s) := fun y => (y.h.cell (p := ⟨b, _, none⟩) hblk).trans c2
      have Y0 : ∀ y : Aft wr, y.w.cell? ⟨w.heap.size, 0, none⟩ = some (.int .i64 x.k) := fun y => (y.h.cell (p := ⟨w.heap.size, 0, none⟩) HW.out.2.lt).trans (HW.out.2.cell 0)
      have Y1 : ∀ y : Aft wr, y.w.cell? ⟨w.heap.size, 1, none⟩ = some (.int .i64 x.n) := fun y => (y.h.cell (p := ⟨w.heap.size, 1, none⟩) HW.out.2.lt).trans (HW.out.2.cell 1)
      have Y2 : ∀ y : Aft wr, y.w.cell? ⟨w.heap.size, 2, none⟩ = some (.string x.s) := fun y => (y.h.cell (p := ⟨w.heap.size, 2, none⟩) HW.out.2.lt).trans (HW.out.2.cell 2)
      have HSt := Lib.hid (any_take_snoc (l := l) (p := fun v => veq x.k x.n x.s v.k v.n v.s) hlt)
      have HHit := Lib.hid (findIdx_hit (p := fun v => veq x.k x.n x.s v.k v.n v.s) hlt HT.out)
      have HAt := Lib.hid (any_at (p := fun v => veq x.k x.n x.s v.k v.n v.s) hlt)
      clear c0 c1 c2
      cases hq : veq x.k x.n x.s l[j].k l[j].n l[j].s with
      | true =>
        have HN : Hid (idxV (fun v => veq x.k x.n x.s v.k v.n v.s) l = (j : Int)) := Lib.hid (by unfold idxV; rw [if_pos (HAt.out hq), HHit.out hq])
        clear HSt HHit HAt
        generalize l[j] = u at *
        go_wp2_with fail
        refine region_aft (by kernel_rfl) (by kernel_rfl) ?_
        repeat (go_big_quiet_step (fail))
        refine wpQuiet_nil ?_
        intro x9
        have H9 := Lib.hid (thn HW.out.1 x9.h)
        clear X0 X1 X2 Y0 Y1 Y2
        go_wp2_with fail
        go_ret
        exact ⟨by rw [HN.out]; rfl, H9.out⟩
      | false =>
        have HN : Hid ((l.take (j + 1)).any (fun v => veq x.k x.n x.s v.k v.n v.s) = false) := Lib.hid (by rw [HSt.out, HT.out, hq]; rfl)
        clear HSt HHit HAt
        generalize l[j] = u at *
        go_wp2_with fail
        refine region_aft (by kernel_rfl) (by kernel_rfl) ?_
        repeat (go_big_quiet_step (fail))
        refine wpQuiet_nil ?_
        intro x9
        have H9 : Hid (Below w.heap.size w x9.w ∧ Blk x9.w w.heap.size 25 #[.int .i64 x.k, .int .i64 x.n, .string x.s]) := Lib.hid ⟨thn HW.out.1 x9.h, HW.out.2.below x9.h HW.out.2.lt⟩
        clear X0 X1 X2 Y0 Y1 Y2
        go_wp2_with fail
        exact ⟨⟨j + 1, by omega, by go_num, H9, HN⟩, by simp [intOf]; omega⟩
    · have hlf : decide ((j : Int) < (l.length : Int)) = false := decide_eq_false (by omega)
      have HN : Hid (idxV (fun v => veq x.k x.n x.s v.k v.n v.s) l = -1) := Lib.hid (by
        have h := HT.out
        rw [List.take_of_length_le (by omega)] at h
        unfold idxV
        rw [h]; rfl)
      go_wp2_with fail
      go_ret
      exact ⟨by rw [HN.out]; rfl, HW.out.1⟩
set_option maxHeartbeats 1000000 in
theorem IndexFunc_val0 (gf : FuncId) (p : V → Bool) (A : Option Addr) (c : Nat) (cs : List V) (w : World) (hr : VReads w w.heap.size A cs) (hn : cs.length ≤ 1000000)
    (heg : ∀ args W, (callFunc gf args).run Tryz.prog W = .ok (.enter gf args) W)
    (hcall : ∀ w1, Below w.heap.size w w1 → ∀ q ∈ cs, Calls Tryz.prog gf #[.agg #[.int .i64 q.k, .int .i64 q.n, .string q.s]] w1 fun e w' => e = .returned (.bool (p q)) ∧ Below w1.heap.size w1 w') :
    Calls Tryz.prog 136 #[.slice A cs.length c, .func (.func gf) #[] #[]] w fun e w' => ∃ z, e = .returned (.int .i64 z) ∧ FoundI z (cs.any p) ∧ Below w.heap.size w w' := by
  have HR := Lib.hid hr
  have HC := Lib.hid hcall
  clear hr hcall
  go_enter Tryz.func136, Tryz.ntmps136
  go_wp2
  go_loopw [8] (fun i wr => ∃ k : Nat, k ≤ cs.length ∧ i = .int .i64 k ∧ Hid ((cs.take k).any p = false ∧ Below w.heap.size w wr)) (fun i _ => cs.length - (intOf i).toNat)
  case atStart => exact ⟨0, Nat.zero_le _, rfl, by simp, Below.refl _ _⟩
  case round =>
    obtain ⟨k, hk, rfl, HI⟩ := hrel
    by_cases hlt : k < cs.length
    · obtain ⟨b, o, rfl, hblk, c0, c1, c2⟩ := (HR.out.below HI.out.2 HI.out.2.size).at_ hlt
      have HX := Lib.hid (HC.out wr HI.out.2 cs[k] (List.getElem_mem hlt))
      have HN := Lib.hid (fun h : p cs[k] = false => (by rw [any_take_snoc hlt, HI.out.1, h]; rfl : (cs.take (k + 1)).any p = false))
      have HY := Lib.hid (fun h : p cs[k] = true => any_at (p := p) hlt h)
      go_wp2_with fail
      refine HX.out.mono ?_
      rintro e w1 ⟨rfl, hb1⟩
      have W1 := Lib.hid (thn HI.out.2 hb1)
      clear hb1 HX c0 c1 c2
      generalize p cs[k] = q at *
      cases q
      · have HN2 := Lib.hid (HN.out rfl)
        clear HN HY
        go_wp2_with fail
        first | exact ⟨⟨k + 1, by omega, by go_num, HN2.out, W1.out⟩, by simp [intOf]; omega⟩ | (go_roundw; case rel => exact ⟨k + 1, by omega, by go_num, HN2.out, W1.out⟩; case measure => simp [intOf]; omega)
      · have HY2 := Lib.hid (HY.out rfl)
        clear HN HY
        go_wp2_with fail
        go_ret
        exact ⟨_, rfl, .inl ⟨HY2.out, by omega, by omega⟩, W1.out⟩
    · have hkn : k = cs.length := by omega
      subst hkn
      go_wp2_with fail
      go_ret
      exact ⟨_, rfl, .inr ⟨by have := HI.out.1; rwa [List.take_length] at this, rfl⟩, HI.out.2⟩
set_option maxHeartbeats 1000000 in
theorem ContainsFunc_val0 (gf : FuncId) (p : V → Bool) (A : Option Addr) (c : Nat) (cs : List V) (w : World) (hr : VReads w w.heap.size A cs) (hn : cs.length ≤ 1000000)
    (heg : ∀ args W, (callFunc gf args).run Tryz.prog W = .ok (.enter gf args) W)
    (hcall : ∀ w1, Below w.heap.size w w1 → ∀ q ∈ cs, Calls Tryz.prog gf #[.agg #[.int .i64 q.k, .int .i64 q.n, .string q.s]] w1 fun e w' => e = .returned (.bool (p q)) ∧ Below w1.heap.size w1 w') :
    Calls Tryz.prog 88 #[.slice A cs.length c, .func (.func gf) #[] #[]] w fun e w' => e = .returned (.bool (cs.any p)) ∧ Below w.heap.size w w' := by
  have HX := Lib.hid (IndexFunc_val0 gf p A c cs w hr hn heg hcall)
  clear hr hcall heg
  go_enter Tryz.func88, Tryz.ntmps88
  go_wp2_with fail
  refine HX.out.mono ?_
  rintro e w1 ⟨z, rfl, hz, hb1⟩
  have HZ := Lib.hid hz.bool
  clear hz HX
  go_wp2_with fail
  go_ret
  exact ⟨ret_bool HZ.out, hb1⟩
/-- whether an operation is null if an argument is null -/
def strB2 (m : Nat) : Bool := decide (m ≤ 17) || m == 21
theorem isStrict_any (m : Nat) (w : World) (h4 : 4 ≤ m) : Calls Tryz.prog 87 #[.int .i64 (m : Nat)] w fun e w' => e = .returned (.bool (strB2 m)) ∧ w = w' := by
  have d4 : decide ((4 : Int) ≤ (m : Int)) = true := decide_eq_true (by omega)
  have d4b : decide (4 ≤ m) = true := decide_eq_true h4
  by_cases h17 : m ≤ 17
  · have d17 : decide ((m : Int) ≤ 17) = true := decide_eq_true (by omega)
    have d17b : decide (m ≤ 17) = true := decide_eq_true h17
    have HE : Hid (strB2 m = true) := Lib.hid (by unfold strB2; rw [d17b]; rfl)
    go_enter Tryz.func87, Tryz.ntmps87
    go_wp2_with fail
    go_ret
    exact ⟨by rw [HE.out]; rfl, rfl⟩
  · have d17 : decide ((m : Int) ≤ 17) = false := decide_eq_false (by omega)
    have d17b : decide (m ≤ 17) = false := decide_eq_false h17
    by_cases h21 : m = 21
    · subst h21
      have HE : Hid (strB2 21 = true) := Lib.hid rfl
      go_enter Tryz.func87, Tryz.ntmps87
      go_wp2_with fail
      go_ret
      exact ⟨by rw [HE.out]; rfl, rfl⟩
    · have e21 : ((m : Int) == 21) = false := beq_eq_false_iff_ne.2 (by omega)
      have HE : Hid (strB2 m = false) := Lib.hid (by unfold strB2; rw [d17b, beq_eq_false_iff_ne.2 h21]; rfl)
      go_enter Tryz.func87, Tryz.ntmps87
      go_wp2_with fail
      go_ret
      exact ⟨by rw [HE.out]; rfl, rfl⟩
end Go.Proofs.YtcbcncaoabablaaGreatDoor
