/-
  CONTRACT of scalar.kindOf: the kind of a node by those of its arguments.
-/
import Derived.Test.YtdiehgfldndgbaaGreatDoorGA09
import Derived.Test.YtdiehgfldndgbaaGreatDoorGA07
import Derived.Test.YtdiehgfldndgbaaGreatDoorAft
import Derived.Deep.DeepCutAuto
namespace Go.Proofs.YtdiehgfldndgbaaGreatDoor
open Go.RowKit Go.Deep

/-- a column, or the zero value -/
def coV : Option Co → Value
  | some c => .agg #[.int .i64 c.1, .bool c.2]
  | none => .agg #[.int .i64 0, .bool false]
theorem vals_pos : ∀ l : List Co, 0 < l.length → 0 < (vals l).length ∧ (vals l).length ≤ l.length ∧ (conds l).length ≤ l.length
  | [], h => absurd h (by simp)
  | [x], _ => by simp [vals, conds]
  | x :: y :: l, _ => by
    by_cases h : 0 < l.length
    · have := vals_pos l h
      simp only [vals, conds, List.length_cons]; omega
    · have : l = [] := List.eq_nil_of_length_eq_zero (by omega)
      subst this
      simp [vals, conds]
theorem fstK_at (l : List Co) (h : 0 < l.length) : fstK l = l[0].1 := by
  cases l with
  | nil => cases h
  | cons x l => rfl
set_option maxHeartbeats 8000000 in
set_option maxRecDepth 100000 in
theorem kindOf_any (m : Nat) (A : Option Addr) (c : Nat) (l : List Co) (w : World) (h4 : 4 ≤ m) (h25 : m ≤ 25) (hr : KReads w w.heap.size A l) (h0 : 0 < l.length) (hn : l.length ≤ 1000) (hG : GS w) :
    Calls Tryz.prog 131 #[.int .i64 (m : Nat), .slice A l.length c] w fun x w' => x = .returned (.tuple #[coV (kindP m l), .bool (kindP m l).isSome]) ∧ Below w.heap.size w w' := by
  obtain ⟨ko, hko⟩ : ∃ q, q = ofK m := ⟨_, rfl⟩
  obtain ⟨ki, hki⟩ : ∃ q, q = isK m := ⟨_, rfl⟩
  have HKo := Lib.hid hko
  have HKi := Lib.hid hki
  clear hko hki
  by_cases hm : m = 24
  · subst hm
    have HV := Lib.hid (vals_pos l h0)
    have HP := Lib.hid (parted_col A c l (w.alloc (.cells #[.int .i64 0, .bool false] 77)) (hr.below (al (Below.refl _ _) _) (by simp)) h0 (by omega))
    have HG := Lib.hid hG
    clear hr hG
    go_enter Tryz.func131, Tryz.ntmps131
    go_wp2_with fail
    refine HP.out.mono ?_
    rintro x w2 ⟨v2, v3, rfl, hP⟩
    obtain ⟨A2, c2, rfl, hr2⟩ := KReads.own hP.1
    obtain ⟨A3, c3, rfl, hr3⟩ := KReads.own hP.2.1
    have H2 : Hid (KReads w2 w2.heap.size A2 (conds l) ∧ KReads w2 w2.heap.size A3 (vals l) ∧ Below w.heap.size w w2 ∧ Blk w2 w.heap.size 77 #[.int .i64 0, .bool false]) := Lib.hid ⟨hr2, hr3, thn (al (Below.refl _ _) _) hP.2.2.2, (Blk.new w 77 #[.int .i64 0, .bool false]).below hP.2.2.2 (Blk.new w 77 #[.int .i64 0, .bool false]).lt⟩
    clear hP hr2 hr3 HP
    have HA := Lib.hid (allAre_any 2 A2 c2 (conds l) w2 H2.out.1 (by have := HV.out; omega))
    go_wp2_with fail
    cases hok : allK (conds l) 2 with
    | false =>
      have HR : Hid (kindP (24 : Nat) l = none) := Lib.hid (by unfold kindP; rw [if_pos (by decide), hok]; rfl)
      rw [hok] at HA
      refine HA.out.mono ?_
      rintro x w3 ⟨rfl, hb3⟩
      have H3 : Hid (KReads w3 w3.heap.size A3 (vals l) ∧ Below w.heap.size w w3 ∧ Blk w3 w.heap.size 77 #[.int .i64 0, .bool false]) := Lib.hid ⟨H2.out.2.1.below hb3 hb3.size, thn H2.out.2.2.1 hb3, H2.out.2.2.2.below hb3 H2.out.2.2.2.lt⟩
      clear hb3 hok
      have f0 := H3.out.2.2.frozen 0
      have f1 := H3.out.2.2.frozen 1
      have d0 := H3.out.2.2.cell 0
      have d1 := H3.out.2.2.cell 1
      simp only [List.getElem?_toArray, List.getElem?_cons_succ, List.getElem?_cons_zero] at d0 d1
      go_wp2_with fail
      have HB := (H3.out.2.2.set_ 0 (.int .i64 0)).set_ 1 (.bool false)
      have k0 := HB.cell 0
      have k1 := HB.cell 1
      simp at k0 k1
      exact bodyPost_ret (v := .tuple #[.agg #[.int .i64 0, .bool false], .bool false]) (by simp [results, Tryz.results131, go_sem, k0, k1]) rfl ⟨by rw [HR.out]; rfl, (H3.out.2.1.setCell (p := ⟨w.heap.size, 0, none⟩) (Nat.le_refl _) _).setCell (p := ⟨w.heap.size, 1, none⟩) (Nat.le_refl _) _⟩
    | true =>
      have HE : Hid (kindP (24 : Nat) l = kindP2 (24 : Nat) (vals l)) := Lib.hid (by unfold kindP; rw [if_pos (by decide), hok]; rfl)
      rw [hok] at HA
      refine HA.out.mono ?_
      rintro x w3 ⟨rfl, hb3⟩
      have HT : Hid (KReads w3 w3.heap.size A3 (vals l) ∧ 0 < (vals l).length ∧ (vals l).length ≤ 1000 ∧ Below w.heap.size w w3 ∧ Blk w3 w.heap.size 77 #[.int .i64 0, .bool false] ∧ GS w3) := Lib.hid ⟨H2.out.2.1.below hb3 hb3.size, HV.out.1, by have := HV.out; omega, thn H2.out.2.2.1 hb3, H2.out.2.2.2.below hb3 H2.out.2.2.2.lt, HG.out.thn (thn H2.out.2.2.1 hb3)⟩
      clear hb3 hok
      go_upto_region 6 with fail
      have X3 : ∀ x : Aft w3, x.w.cell? ⟨0, 123, none⟩ = some (.int .i64 ko) := fun x => HKo.out ▸ ((HT.out.2.2.2.2.2.thn x.h).shp 24 h4 h25).2.2.2.1
      have X4 : ∀ x : Aft w3, x.w.cell? ⟨0, 124, none⟩ = some (.int .i64 ki) := fun x => HKi.out ▸ ((HT.out.2.2.2.2.2.thn x.h).shp 24 h4 h25).2.2.2.2
      have X5 : ∀ x : Aft w3, 2 ≤ x.w.heap.size := fun x => (HT.out.2.2.2.2.2.thn x.h).lo
      refine region_aft (by kernel_rfl) (by kernel_rfl) ?_
      repeat (go_big_quiet_step (fail))
      refine wpQuiet_nil ?_
      intro x9
      have HT9 : Hid (KReads x9.w x9.w.heap.size A3 (vals l) ∧ Below w.heap.size w x9.w ∧ Blk x9.w w.heap.size 77 #[.int .i64 0, .bool false] ∧ GS x9.w) := Lib.hid ⟨HT.out.1.below x9.h x9.h.size, thn HT.out.2.2.2.1 x9.h, HT.out.2.2.2.2.1.below x9.h HT.out.2.2.2.2.1.lt, HT.out.2.2.2.2.2.thn x9.h⟩
      clear X3 X4 X5
      cases hof : (ko == 0) with
      | true =>
        obtain ⟨b, o, rfl, hblk, c0, -⟩ := HT9.out.1.at_ (i := 0) HT.out.2.1
        rw [Nat.zero_mul, Nat.add_zero] at c0
        have hpos : ¬ ((0 : Int) < ((vals l).length : Int)) → False := fun h => h (by have := HT.out.2.1; omega)
        have hpos2 : 0 < (vals l).length := HT.out.2.1
        obtain ⟨q, hq⟩ : ∃ q, q = ((vals l))[0].1 := ⟨_, rfl⟩
        rw [← hq] at c0
        have HQ : Hid ((if ko = 0 then fstK (vals l) else ko) = q) := Lib.hid (by rw [if_pos (by simpa using hof), fstK_at _ HT.out.2.1, hq])
        clear hq
        cases his : (ki == 0) with
        | true =>
          have HI : Hid ((if ki = 0 then (if ko = 0 then fstK (vals l) else ko) else ki) = q) := Lib.hid (by rw [if_pos (by simpa using his), HQ.out])
          have HA := Lib.hid (allAre_any q (some ⟨b, o, none⟩) c3 (vals l) x9.w HT9.out.1 (by have := HT.out.2.2.1; omega))
          cases hok : allK (vals l) q with
          | false =>
            have HR : Hid (kindP (24 : Nat) l = none) := Lib.hid (by rw [HE.out]; unfold kindP2; rw [← HKo.out, HQ.out, hok]; rfl)
            rw [hok] at HA
            clear hok
            go_wp2_with fail
            refine HA.out.mono ?_
            rintro x w8 ⟨rfl, hb8⟩
            have H8 : Hid (KReads w8 w8.heap.size (some ⟨b, o, none⟩) (vals l) ∧ Below w.heap.size w w8 ∧ Blk w8 w.heap.size 77 #[.int .i64 0, .bool false]) := Lib.hid ⟨HT9.out.1.below hb8 hb8.size, thn HT9.out.2.1 hb8, HT9.out.2.2.1.below hb8 HT9.out.2.2.1.lt⟩
            clear hb8
            clear c0
            have f0 := H8.out.2.2.frozen 0
            have f1 := H8.out.2.2.frozen 1
            have d0 := H8.out.2.2.cell 0
            have d1 := H8.out.2.2.cell 1
            simp only [List.getElem?_toArray, List.getElem?_cons_succ, List.getElem?_cons_zero] at d0 d1
            go_wp2_with fail
            have HB := (H8.out.2.2.set_ 0 (.int .i64 0)).set_ 1 (.bool false)
            have k0 := HB.cell 0
            have k1 := HB.cell 1
            simp at k0 k1
            exact bodyPost_ret (v := .tuple #[.agg #[.int .i64 0, .bool false], .bool false]) (by simp [results, Tryz.results131, go_sem, k0, k1]) rfl ⟨by rw [HR.out]; rfl, (H8.out.2.1.setCell (p := ⟨w.heap.size, 0, none⟩) (Nat.le_refl _) _).setCell (p := ⟨w.heap.size, 1, none⟩) (Nat.le_refl _) _⟩
          | true =>
            have HR : Hid (kindP (24 : Nat) l = some (q, mayN (24 : Nat) (vals l))) := Lib.hid (by rw [HE.out]; unfold kindP2; rw [← HKo.out, ← HKi.out, HI.out, HQ.out, hok]; rfl)
            rw [hok] at HA
            clear hok
            go_wp2_with fail
            refine HA.out.mono ?_
            rintro x w8 ⟨rfl, hb8⟩
            have H8 : Hid (KReads w8 w8.heap.size (some ⟨b, o, none⟩) (vals l) ∧ Below w.heap.size w w8 ∧ Blk w8 w.heap.size 77 #[.int .i64 0, .bool false]) := Lib.hid ⟨HT9.out.1.below hb8 hb8.size, thn HT9.out.2.1 hb8, HT9.out.2.2.1.below hb8 HT9.out.2.2.1.lt⟩
            clear hb8
            clear c0
            have HM := Lib.hid (mayBeNull_any (24 : Nat) (some ⟨b, o, none⟩) c3 (vals l) w8 H8.out.1 (by have := HT.out.2.2.1; omega))
            generalize mayN (24 : Nat) (vals l) = qn at *
            go_wp2_with fail
            refine HM.out.mono ?_
            rintro x w9 ⟨rfl, hb9⟩
            have H9 : Hid (Below w.heap.size w w9 ∧ Blk w9 w.heap.size 77 #[.int .i64 0, .bool false]) := Lib.hid ⟨thn H8.out.2.1 hb9, H8.out.2.2.below hb9 H8.out.2.2.lt⟩
            clear hb9
            have f0 := H9.out.2.frozen 0
            have f1 := H9.out.2.frozen 1
            have d0 := H9.out.2.cell 0
            have d1 := H9.out.2.cell 1
            simp only [List.getElem?_toArray, List.getElem?_cons_succ, List.getElem?_cons_zero] at d0 d1
            go_wp2_with fail
            have HB := (H9.out.2.set_ 0 (.int .i64 q)).set_ 1 (.bool qn)
            have k0 := HB.cell 0
            have k1 := HB.cell 1
            simp at k0 k1
            exact bodyPost_ret (v := .tuple #[.agg #[.int .i64 q, .bool qn], .bool true]) (by simp [results, Tryz.results131, go_sem, k0, k1]) rfl ⟨by rw [HR.out]; rfl, (H9.out.1.setCell (p := ⟨w.heap.size, 0, none⟩) (Nat.le_refl _) _).setCell (p := ⟨w.heap.size, 1, none⟩) (Nat.le_refl _) _⟩
        | false =>
          have HI : Hid ((if ki = 0 then (if ko = 0 then fstK (vals l) else ko) else ki) = ki) := Lib.hid (by rw [if_neg (by simpa using his)])
          have HA := Lib.hid (allAre_any q (some ⟨b, o, none⟩) c3 (vals l) x9.w HT9.out.1 (by have := HT.out.2.2.1; omega))
          cases hok : allK (vals l) q with
          | false =>
            have HR : Hid (kindP (24 : Nat) l = none) := Lib.hid (by rw [HE.out]; unfold kindP2; rw [← HKo.out, HQ.out, hok]; rfl)
            rw [hok] at HA
            clear hok
            go_wp2_with fail
            refine HA.out.mono ?_
            rintro x w8 ⟨rfl, hb8⟩
            have H8 : Hid (KReads w8 w8.heap.size (some ⟨b, o, none⟩) (vals l) ∧ Below w.heap.size w w8 ∧ Blk w8 w.heap.size 77 #[.int .i64 0, .bool false]) := Lib.hid ⟨HT9.out.1.below hb8 hb8.size, thn HT9.out.2.1 hb8, HT9.out.2.2.1.below hb8 HT9.out.2.2.1.lt⟩
            clear hb8
            clear c0
            have f0 := H8.out.2.2.frozen 0
            have f1 := H8.out.2.2.frozen 1
            have d0 := H8.out.2.2.cell 0
            have d1 := H8.out.2.2.cell 1
            simp only [List.getElem?_toArray, List.getElem?_cons_succ, List.getElem?_cons_zero] at d0 d1
            go_wp2_with fail
            have HB := (H8.out.2.2.set_ 0 (.int .i64 0)).set_ 1 (.bool false)
            have k0 := HB.cell 0
            have k1 := HB.cell 1
            simp at k0 k1
            exact bodyPost_ret (v := .tuple #[.agg #[.int .i64 0, .bool false], .bool false]) (by simp [results, Tryz.results131, go_sem, k0, k1]) rfl ⟨by rw [HR.out]; rfl, (H8.out.2.1.setCell (p := ⟨w.heap.size, 0, none⟩) (Nat.le_refl _) _).setCell (p := ⟨w.heap.size, 1, none⟩) (Nat.le_refl _) _⟩
          | true =>
            have HR : Hid (kindP (24 : Nat) l = some (ki, mayN (24 : Nat) (vals l))) := Lib.hid (by rw [HE.out]; unfold kindP2; rw [← HKo.out, ← HKi.out, HI.out, HQ.out, hok]; rfl)
            rw [hok] at HA
            clear hok
            go_wp2_with fail
            refine HA.out.mono ?_
            rintro x w8 ⟨rfl, hb8⟩
            have H8 : Hid (KReads w8 w8.heap.size (some ⟨b, o, none⟩) (vals l) ∧ Below w.heap.size w w8 ∧ Blk w8 w.heap.size 77 #[.int .i64 0, .bool false]) := Lib.hid ⟨HT9.out.1.below hb8 hb8.size, thn HT9.out.2.1 hb8, HT9.out.2.2.1.below hb8 HT9.out.2.2.1.lt⟩
            clear hb8
            clear c0
            have HM := Lib.hid (mayBeNull_any (24 : Nat) (some ⟨b, o, none⟩) c3 (vals l) w8 H8.out.1 (by have := HT.out.2.2.1; omega))
            generalize mayN (24 : Nat) (vals l) = qn at *
            go_wp2_with fail
            refine HM.out.mono ?_
            rintro x w9 ⟨rfl, hb9⟩
            have H9 : Hid (Below w.heap.size w w9 ∧ Blk w9 w.heap.size 77 #[.int .i64 0, .bool false]) := Lib.hid ⟨thn H8.out.2.1 hb9, H8.out.2.2.below hb9 H8.out.2.2.lt⟩
            clear hb9
            have f0 := H9.out.2.frozen 0
            have f1 := H9.out.2.frozen 1
            have d0 := H9.out.2.cell 0
            have d1 := H9.out.2.cell 1
            simp only [List.getElem?_toArray, List.getElem?_cons_succ, List.getElem?_cons_zero] at d0 d1
            go_wp2_with fail
            have HB := (H9.out.2.set_ 0 (.int .i64 ki)).set_ 1 (.bool qn)
            have k0 := HB.cell 0
            have k1 := HB.cell 1
            simp at k0 k1
            exact bodyPost_ret (v := .tuple #[.agg #[.int .i64 ki, .bool qn], .bool true]) (by simp [results, Tryz.results131, go_sem, k0, k1]) rfl ⟨by rw [HR.out]; rfl, (H9.out.1.setCell (p := ⟨w.heap.size, 0, none⟩) (Nat.le_refl _) _).setCell (p := ⟨w.heap.size, 1, none⟩) (Nat.le_refl _) _⟩
      | false =>
        obtain ⟨q, hq⟩ : ∃ q, q = ko := ⟨_, rfl⟩
        have HQ : Hid ((if ko = 0 then fstK (vals l) else ko) = q) := Lib.hid (by rw [if_neg (by simpa using hof), hq])
        rw [← hq] at hof ⊢
        clear hq
        cases his : (ki == 0) with
        | true =>
          have HI : Hid ((if ki = 0 then (if ko = 0 then fstK (vals l) else ko) else ki) = q) := Lib.hid (by rw [if_pos (by simpa using his), HQ.out])
          have HA := Lib.hid (allAre_any q A3 c3 (vals l) x9.w HT9.out.1 (by have := HT.out.2.2.1; omega))
          cases hok : allK (vals l) q with
          | false =>
            have HR : Hid (kindP (24 : Nat) l = none) := Lib.hid (by rw [HE.out]; unfold kindP2; rw [← HKo.out, HQ.out, hok]; rfl)
            rw [hok] at HA
            clear hok
            go_wp2_with fail
            refine HA.out.mono ?_
            rintro x w8 ⟨rfl, hb8⟩
            have H8 : Hid (KReads w8 w8.heap.size A3 (vals l) ∧ Below w.heap.size w w8 ∧ Blk w8 w.heap.size 77 #[.int .i64 0, .bool false]) := Lib.hid ⟨HT9.out.1.below hb8 hb8.size, thn HT9.out.2.1 hb8, HT9.out.2.2.1.below hb8 HT9.out.2.2.1.lt⟩
            clear hb8
            have f0 := H8.out.2.2.frozen 0
            have f1 := H8.out.2.2.frozen 1
            have d0 := H8.out.2.2.cell 0
            have d1 := H8.out.2.2.cell 1
            simp only [List.getElem?_toArray, List.getElem?_cons_succ, List.getElem?_cons_zero] at d0 d1
            go_wp2_with fail
            have HB := (H8.out.2.2.set_ 0 (.int .i64 0)).set_ 1 (.bool false)
            have k0 := HB.cell 0
            have k1 := HB.cell 1
            simp at k0 k1
            exact bodyPost_ret (v := .tuple #[.agg #[.int .i64 0, .bool false], .bool false]) (by simp [results, Tryz.results131, go_sem, k0, k1]) rfl ⟨by rw [HR.out]; rfl, (H8.out.2.1.setCell (p := ⟨w.heap.size, 0, none⟩) (Nat.le_refl _) _).setCell (p := ⟨w.heap.size, 1, none⟩) (Nat.le_refl _) _⟩
          | true =>
            have HR : Hid (kindP (24 : Nat) l = some (q, mayN (24 : Nat) (vals l))) := Lib.hid (by rw [HE.out]; unfold kindP2; rw [← HKo.out, ← HKi.out, HI.out, HQ.out, hok]; rfl)
            rw [hok] at HA
            clear hok
            go_wp2_with fail
            refine HA.out.mono ?_
            rintro x w8 ⟨rfl, hb8⟩
            have H8 : Hid (KReads w8 w8.heap.size A3 (vals l) ∧ Below w.heap.size w w8 ∧ Blk w8 w.heap.size 77 #[.int .i64 0, .bool false]) := Lib.hid ⟨HT9.out.1.below hb8 hb8.size, thn HT9.out.2.1 hb8, HT9.out.2.2.1.below hb8 HT9.out.2.2.1.lt⟩
            clear hb8
            have HM := Lib.hid (mayBeNull_any (24 : Nat) A3 c3 (vals l) w8 H8.out.1 (by have := HT.out.2.2.1; omega))
            generalize mayN (24 : Nat) (vals l) = qn at *
            go_wp2_with fail
            refine HM.out.mono ?_
            rintro x w9 ⟨rfl, hb9⟩
            have H9 : Hid (Below w.heap.size w w9 ∧ Blk w9 w.heap.size 77 #[.int .i64 0, .bool false]) := Lib.hid ⟨thn H8.out.2.1 hb9, H8.out.2.2.below hb9 H8.out.2.2.lt⟩
            clear hb9
            have f0 := H9.out.2.frozen 0
            have f1 := H9.out.2.frozen 1
            have d0 := H9.out.2.cell 0
            have d1 := H9.out.2.cell 1
            simp only [List.getElem?_toArray, List.getElem?_cons_succ, List.getElem?_cons_zero] at d0 d1
            go_wp2_with fail
            have HB := (H9.out.2.set_ 0 (.int .i64 q)).set_ 1 (.bool qn)
            have k0 := HB.cell 0
            have k1 := HB.cell 1
            simp at k0 k1
            exact bodyPost_ret (v := .tuple #[.agg #[.int .i64 q, .bool qn], .bool true]) (by simp [results, Tryz.results131, go_sem, k0, k1]) rfl ⟨by rw [HR.out]; rfl, (H9.out.1.setCell (p := ⟨w.heap.size, 0, none⟩) (Nat.le_refl _) _).setCell (p := ⟨w.heap.size, 1, none⟩) (Nat.le_refl _) _⟩
        | false =>
          have HI : Hid ((if ki = 0 then (if ko = 0 then fstK (vals l) else ko) else ki) = ki) := Lib.hid (by rw [if_neg (by simpa using his)])
          have HA := Lib.hid (allAre_any q A3 c3 (vals l) x9.w HT9.out.1 (by have := HT.out.2.2.1; omega))
          cases hok : allK (vals l) q with
          | false =>
            have HR : Hid (kindP (24 : Nat) l = none) := Lib.hid (by rw [HE.out]; unfold kindP2; rw [← HKo.out, HQ.out, hok]; rfl)
            rw [hok] at HA
            clear hok
            go_wp2_with fail
            refine HA.out.mono ?_
            rintro x w8 ⟨rfl, hb8⟩
            have H8 : Hid (KReads w8 w8.heap.size A3 (vals l) ∧ Below w.heap.size w w8 ∧ Blk w8 w.heap.size 77 #[.int .i64 0, .bool false]) := Lib.hid ⟨HT9.out.1.below hb8 hb8.size, thn HT9.out.2.1 hb8, HT9.out.2.2.1.below hb8 HT9.out.2.2.1.lt⟩
            clear hb8
            have f0 := H8.out.2.2.frozen 0
            have f1 := H8.out.2.2.frozen 1
            have d0 := H8.out.2.2.cell 0
            have d1 := H8.out.2.2.cell 1
            simp only [List.getElem?_toArray, List.getElem?_cons_succ, List.getElem?_cons_zero] at d0 d1
            go_wp2_with fail
            have HB := (H8.out.2.2.set_ 0 (.int .i64 0)).set_ 1 (.bool false)
            have k0 := HB.cell 0
            have k1 := HB.cell 1
            simp at k0 k1
            exact bodyPost_ret (v := .tuple #[.agg #[.int .i64 0, .bool false], .bool false]) (by simp [results, Tryz.results131, go_sem, k0, k1]) rfl ⟨by rw [HR.out]; rfl, (H8.out.2.1.setCell (p := ⟨w.heap.size, 0, none⟩) (Nat.le_refl _) _).setCell (p := ⟨w.heap.size, 1, none⟩) (Nat.le_refl _) _⟩
          | true =>
            have HR : Hid (kindP (24 : Nat) l = some (ki, mayN (24 : Nat) (vals l))) := Lib.hid (by rw [HE.out]; unfold kindP2; rw [← HKo.out, ← HKi.out, HI.out, HQ.out, hok]; rfl)
            rw [hok] at HA
            clear hok
            go_wp2_with fail
            refine HA.out.mono ?_
            rintro x w8 ⟨rfl, hb8⟩
            have H8 : Hid (KReads w8 w8.heap.size A3 (vals l) ∧ Below w.heap.size w w8 ∧ Blk w8 w.heap.size 77 #[.int .i64 0, .bool false]) := Lib.hid ⟨HT9.out.1.below hb8 hb8.size, thn HT9.out.2.1 hb8, HT9.out.2.2.1.below hb8 HT9.out.2.2.1.lt⟩
            clear hb8
            have HM := Lib.hid (mayBeNull_any (24 : Nat) A3 c3 (vals l) w8 H8.out.1 (by have := HT.out.2.2.1; omega))
            generalize mayN (24 : Nat) (vals l) = qn at *
            go_wp2_with fail
            refine HM.out.mono ?_
            rintro x w9 ⟨rfl, hb9⟩
            have H9 : Hid (Below w.heap.size w w9 ∧ Blk w9 w.heap.size 77 #[.int .i64 0, .bool false]) := Lib.hid ⟨thn H8.out.2.1 hb9, H8.out.2.2.below hb9 H8.out.2.2.lt⟩
            clear hb9
            have f0 := H9.out.2.frozen 0
            have f1 := H9.out.2.frozen 1
            have d0 := H9.out.2.cell 0
            have d1 := H9.out.2.cell 1
            simp only [List.getElem?_toArray, List.getElem?_cons_succ, List.getElem?_cons_zero] at d0 d1
            go_wp2_with fail
            have HB := (H9.out.2.set_ 0 (.int .i64 ki)).set_ 1 (.bool qn)
            have k0 := HB.cell 0
            have k1 := HB.cell 1
            simp at k0 k1
            exact bodyPost_ret (v := .tuple #[.agg #[.int .i64 ki, .bool qn], .bool true]) (by simp [results, Tryz.results131, go_sem, k0, k1]) rfl ⟨by rw [HR.out]; rfl, (H9.out.1.setCell (p := ⟨w.heap.size, 0, none⟩) (Nat.le_refl _) _).setCell (p := ⟨w.heap.size, 1, none⟩) (Nat.le_refl _) _⟩
  · have HE : Hid (kindP m l = kindP2 m l) := Lib.hid (by unfold kindP; rw [if_neg (by omega)])
    have e24 : ((m : Int) == 24) = false := beq_eq_false_iff_ne.2 (by omega)
    have HT : Hid (KReads (w.alloc (.cells #[.int .i64 0, .bool false] 77)) (w.alloc (.cells #[.int .i64 0, .bool false] 77)).heap.size A l ∧ 0 < l.length ∧ l.length ≤ 1000 ∧ Below w.heap.size w (w.alloc (.cells #[.int .i64 0, .bool false] 77)) ∧ Blk (w.alloc (.cells #[.int .i64 0, .bool false] 77)) w.heap.size 77 #[.int .i64 0, .bool false] ∧ GS (w.alloc (.cells #[.int .i64 0, .bool false] 77))) :=
      Lib.hid ⟨hr.below (al (Below.refl _ _) _) (by simp), h0, hn, al (Below.refl _ _) _, Blk.new _ _ _, hG.thn (al (Below.refl _ _) _)⟩
    clear hr hG hm h0 hn
    go_enter Tryz.func131, Tryz.ntmps131
    go_upto_region 6 with fail
    have X3 : ∀ x : Aft (w.alloc (.cells #[.int .i64 0, .bool false] 77)), x.w.cell? ⟨0, m * 5 + 3, none⟩ = some (.int .i64 ko) := fun x => HKo.out ▸ ((HT.out.2.2.2.2.2.thn x.h).shp m h4 h25).2.2.2.1
    have X4 : ∀ x : Aft (w.alloc (.cells #[.int .i64 0, .bool false] 77)), x.w.cell? ⟨0, m * 5 + 4, none⟩ = some (.int .i64 ki) := fun x => HKi.out ▸ ((HT.out.2.2.2.2.2.thn x.h).shp m h4 h25).2.2.2.2
    have X5 : ∀ x : Aft (w.alloc (.cells #[.int .i64 0, .bool false] 77)), 2 ≤ x.w.heap.size := fun x => (HT.out.2.2.2.2.2.thn x.h).lo
    refine region_aft (by kernel_rfl) (by kernel_rfl) ?_
    repeat (go_big_quiet_step (fail))
    refine wpQuiet_nil ?_
    intro x9
    have HT9 : Hid (KReads x9.w x9.w.heap.size A l ∧ Below w.heap.size w x9.w ∧ Blk x9.w w.heap.size 77 #[.int .i64 0, .bool false] ∧ GS x9.w) := Lib.hid ⟨HT.out.1.below x9.h x9.h.size, thn HT.out.2.2.2.1 x9.h, HT.out.2.2.2.2.1.below x9.h HT.out.2.2.2.2.1.lt, HT.out.2.2.2.2.2.thn x9.h⟩
    clear X3 X4 X5
    cases hof : (ko == 0) with
    | true =>
      obtain ⟨b, o, rfl, hblk, c0, -⟩ := HT9.out.1.at_ (i := 0) HT.out.2.1
      rw [Nat.zero_mul, Nat.add_zero] at c0
      have hpos : ¬ ((0 : Int) < (l.length : Int)) → False := fun h => h (by have := HT.out.2.1; omega)
      have hpos2 : 0 < l.length := HT.out.2.1
      obtain ⟨q, hq⟩ : ∃ q, q = l[0].1 := ⟨_, rfl⟩
      rw [← hq] at c0
      have HQ : Hid ((if ko = 0 then fstK l else ko) = q) := Lib.hid (by rw [if_pos (by simpa using hof), fstK_at _ HT.out.2.1, hq])
      clear hq
      cases his : (ki == 0) with
      | true =>
        have HI : Hid ((if ki = 0 then (if ko = 0 then fstK l else ko) else ki) = q) := Lib.hid (by rw [if_pos (by simpa using his), HQ.out])
        have HA := Lib.hid (allAre_any q (some ⟨b, o, none⟩) c l x9.w HT9.out.1 (by have := HT.out.2.2.1; omega))
        cases hok : allK l q with
        | false =>
          have HR : Hid (kindP m l = none) := Lib.hid (by rw [HE.out]; unfold kindP2; rw [← HKo.out, HQ.out, hok]; rfl)
          rw [hok] at HA
          clear hok
          go_wp2_with fail
          refine HA.out.mono ?_
          rintro x w8 ⟨rfl, hb8⟩
          have H8 : Hid (KReads w8 w8.heap.size (some ⟨b, o, none⟩) l ∧ Below w.heap.size w w8 ∧ Blk w8 w.heap.size 77 #[.int .i64 0, .bool false]) := Lib.hid ⟨HT9.out.1.below hb8 hb8.size, thn HT9.out.2.1 hb8, HT9.out.2.2.1.below hb8 HT9.out.2.2.1.lt⟩
          clear hb8
          clear c0
          have f0 := H8.out.2.2.frozen 0
          have f1 := H8.out.2.2.frozen 1
          have d0 := H8.out.2.2.cell 0
          have d1 := H8.out.2.2.cell 1
          simp only [List.getElem?_toArray, List.getElem?_cons_succ, List.getElem?_cons_zero] at d0 d1
          go_wp2_with fail
          have HB := (H8.out.2.2.set_ 0 (.int .i64 0)).set_ 1 (.bool false)
          have k0 := HB.cell 0
          have k1 := HB.cell 1
          simp at k0 k1
          exact bodyPost_ret (v := .tuple #[.agg #[.int .i64 0, .bool false], .bool false]) (by simp [results, Tryz.results131, go_sem, k0, k1]) rfl ⟨by rw [HR.out]; rfl, (H8.out.2.1.setCell (p := ⟨w.heap.size, 0, none⟩) (Nat.le_refl _) _).setCell (p := ⟨w.heap.size, 1, none⟩) (Nat.le_refl _) _⟩
        | true =>
          have HR : Hid (kindP m l = some (q, mayN m l)) := Lib.hid (by rw [HE.out]; unfold kindP2; rw [← HKo.out, ← HKi.out, HI.out, HQ.out, hok]; rfl)
          rw [hok] at HA
          clear hok
          go_wp2_with fail
          refine HA.out.mono ?_
          rintro x w8 ⟨rfl, hb8⟩
          have H8 : Hid (KReads w8 w8.heap.size (some ⟨b, o, none⟩) l ∧ Below w.heap.size w w8 ∧ Blk w8 w.heap.size 77 #[.int .i64 0, .bool false]) := Lib.hid ⟨HT9.out.1.below hb8 hb8.size, thn HT9.out.2.1 hb8, HT9.out.2.2.1.below hb8 HT9.out.2.2.1.lt⟩
          clear hb8
          clear c0
          have HM := Lib.hid (mayBeNull_any m (some ⟨b, o, none⟩) c l w8 H8.out.1 (by have := HT.out.2.2.1; omega))
          generalize mayN m l = qn at *
          go_wp2_with fail
          refine HM.out.mono ?_
          rintro x w9 ⟨rfl, hb9⟩
          have H9 : Hid (Below w.heap.size w w9 ∧ Blk w9 w.heap.size 77 #[.int .i64 0, .bool false]) := Lib.hid ⟨thn H8.out.2.1 hb9, H8.out.2.2.below hb9 H8.out.2.2.lt⟩
          clear hb9
          have f0 := H9.out.2.frozen 0
          have f1 := H9.out.2.frozen 1
          have d0 := H9.out.2.cell 0
          have d1 := H9.out.2.cell 1
          simp only [List.getElem?_toArray, List.getElem?_cons_succ, List.getElem?_cons_zero] at d0 d1
          go_wp2_with fail
          have HB := (H9.out.2.set_ 0 (.int .i64 q)).set_ 1 (.bool qn)
          have k0 := HB.cell 0
          have k1 := HB.cell 1
          simp at k0 k1
          exact bodyPost_ret (v := .tuple #[.agg #[.int .i64 q, .bool qn], .bool true]) (by simp [results, Tryz.results131, go_sem, k0, k1]) rfl ⟨by rw [HR.out]; rfl, (H9.out.1.setCell (p := ⟨w.heap.size, 0, none⟩) (Nat.le_refl _) _).setCell (p := ⟨w.heap.size, 1, none⟩) (Nat.le_refl _) _⟩
      | false =>
        have HI : Hid ((if ki = 0 then (if ko = 0 then fstK l else ko) else ki) = ki) := Lib.hid (by rw [if_neg (by simpa using his)])
        have HA := Lib.hid (allAre_any q (some ⟨b, o, none⟩) c l x9.w HT9.out.1 (by have := HT.out.2.2.1; omega))
        cases hok : allK l q with
        | false =>
          have HR : Hid (kindP m l = none) := Lib.hid (by rw [HE.out]; unfold kindP2; rw [← HKo.out, HQ.out, hok]; rfl)
          rw [hok] at HA
          clear hok
          go_wp2_with fail
          refine HA.out.mono ?_
          rintro x w8 ⟨rfl, hb8⟩
          have H8 : Hid (KReads w8 w8.heap.size (some ⟨b, o, none⟩) l ∧ Below w.heap.size w w8 ∧ Blk w8 w.heap.size 77 #[.int .i64 0, .bool false]) := Lib.hid ⟨HT9.out.1.below hb8 hb8.size, thn HT9.out.2.1 hb8, HT9.out.2.2.1.below hb8 HT9.out.2.2.1.lt⟩
          clear hb8
          clear c0
          have f0 := H8.out.2.2.frozen 0
          have f1 := H8.out.2.2.frozen 1
          have d0 := H8.out.2.2.cell 0
          have d1 := H8.out.2.2.cell 1
          simp only [List.getElem?_toArray, List.getElem?_cons_succ, List.getElem?_cons_zero] at d0 d1
          go_wp2_with fail
          have HB := (H8.out.2.2.set_ 0 (.int .i64 0)).set_ 1 (.bool false)
          have k0 := HB.cell 0
          have k1 := HB.cell 1
          simp at k0 k1
          exact bodyPost_ret (v := .tuple #[.agg #[.int .i64 0, .bool false], .bool false]) (by simp [results, Tryz.results131, go_sem, k0, k1]) rfl ⟨by rw [HR.out]; rfl, (H8.out.2.1.setCell (p := ⟨w.heap.size, 0, none⟩) (Nat.le_refl _) _).setCell (p := ⟨w.heap.size, 1, none⟩) (Nat.le_refl _) _⟩
        | true =>
          have HR : Hid (kindP m l = some (ki, mayN m l)) := Lib.hid (by rw [HE.out]; unfold kindP2; rw [← HKo.out, ← HKi.out, HI.out, HQ.out, hok]; rfl)
          rw [hok] at HA
          clear hok
          go_wp2_with fail
          refine HA.out.mono ?_
          rintro x w8 ⟨rfl, hb8⟩
          have H8 : Hid (KReads w8 w8.heap.size (some ⟨b, o, none⟩) l ∧ Below w.heap.size w w8 ∧ Blk w8 w.heap.size 77 #[.int .i64 0, .bool false]) := Lib.hid ⟨HT9.out.1.below hb8 hb8.size, thn HT9.out.2.1 hb8, HT9.out.2.2.1.below hb8 HT9.out.2.2.1.lt⟩
          clear hb8
          clear c0
          have HM := Lib.hid (mayBeNull_any m (some ⟨b, o, none⟩) c l w8 H8.out.1 (by have := HT.out.2.2.1; omega))
          generalize mayN m l = qn at *
          go_wp2_with fail
          refine HM.out.mono ?_
          rintro x w9 ⟨rfl, hb9⟩
          have H9 : Hid (Below w.heap.size w w9 ∧ Blk w9 w.heap.size 77 #[.int .i64 0, .bool false]) := Lib.hid ⟨thn H8.out.2.1 hb9, H8.out.2.2.below hb9 H8.out.2.2.lt⟩
          clear hb9
          have f0 := H9.out.2.frozen 0
          have f1 := H9.out.2.frozen 1
          have d0 := H9.out.2.cell 0
          have d1 := H9.out.2.cell 1
          simp only [List.getElem?_toArray, List.getElem?_cons_succ, List.getElem?_cons_zero] at d0 d1
          go_wp2_with fail
          have HB := (H9.out.2.set_ 0 (.int .i64 ki)).set_ 1 (.bool qn)
          have k0 := HB.cell 0
          have k1 := HB.cell 1
          simp at k0 k1
          exact bodyPost_ret (v := .tuple #[.agg #[.int .i64 ki, .bool qn], .bool true]) (by simp [results, Tryz.results131, go_sem, k0, k1]) rfl ⟨by rw [HR.out]; rfl, (H9.out.1.setCell (p := ⟨w.heap.size, 0, none⟩) (Nat.le_refl _) _).setCell (p := ⟨w.heap.size, 1, none⟩) (Nat.le_refl _) _⟩
    | false =>
      obtain ⟨q, hq⟩ : ∃ q, q = ko := ⟨_, rfl⟩
      have HQ : Hid ((if ko = 0 then fstK l else ko) = q) := Lib.hid (by rw [if_neg (by simpa using hof), hq])
      rw [← hq] at hof ⊢
      clear hq
      cases his : (ki == 0) with
      | true =>
        have HI : Hid ((if ki = 0 then (if ko = 0 then fstK l else ko) else ki) = q) := Lib.hid (by rw [if_pos (by simpa using his), HQ.out])
        have HA := Lib.hid (allAre_any q A c l x9.w HT9.out.1 (by have := HT.out.2.2.1; omega))
        cases hok : allK l q with
        | false =>
          have HR : Hid (kindP m l = none) := Lib.hid (by rw [HE.out]; unfold kindP2; rw [← HKo.out, HQ.out, hok]; rfl)
          rw [hok] at HA
          clear hok
          go_wp2_with fail
          refine HA.out.mono ?_
          rintro x w8 ⟨rfl, hb8⟩
          have H8 : Hid (KReads w8 w8.heap.size A l ∧ Below w.heap.size w w8 ∧ Blk w8 w.heap.size 77 #[.int .i64 0, .bool false]) := Lib.hid ⟨HT9.out.1.below hb8 hb8.size, thn HT9.out.2.1 hb8, HT9.out.2.2.1.below hb8 HT9.out.2.2.1.lt⟩
          clear hb8
          have f0 := H8.out.2.2.frozen 0
          have f1 := H8.out.2.2.frozen 1
          have d0 := H8.out.2.2.cell 0
          have d1 := H8.out.2.2.cell 1
          simp only [List.getElem?_toArray, List.getElem?_cons_succ, List.getElem?_cons_zero] at d0 d1
          go_wp2_with fail
          have HB := (H8.out.2.2.set_ 0 (.int .i64 0)).set_ 1 (.bool false)
          have k0 := HB.cell 0
          have k1 := HB.cell 1
          simp at k0 k1
          exact bodyPost_ret (v := .tuple #[.agg #[.int .i64 0, .bool false], .bool false]) (by simp [results, Tryz.results131, go_sem, k0, k1]) rfl ⟨by rw [HR.out]; rfl, (H8.out.2.1.setCell (p := ⟨w.heap.size, 0, none⟩) (Nat.le_refl _) _).setCell (p := ⟨w.heap.size, 1, none⟩) (Nat.le_refl _) _⟩
        | true =>
          have HR : Hid (kindP m l = some (q, mayN m l)) := Lib.hid (by rw [HE.out]; unfold kindP2; rw [← HKo.out, ← HKi.out, HI.out, HQ.out, hok]; rfl)
          rw [hok] at HA
          clear hok
          go_wp2_with fail
          refine HA.out.mono ?_
          rintro x w8 ⟨rfl, hb8⟩
          have H8 : Hid (KReads w8 w8.heap.size A l ∧ Below w.heap.size w w8 ∧ Blk w8 w.heap.size 77 #[.int .i64 0, .bool false]) := Lib.hid ⟨HT9.out.1.below hb8 hb8.size, thn HT9.out.2.1 hb8, HT9.out.2.2.1.below hb8 HT9.out.2.2.1.lt⟩
          clear hb8
          have HM := Lib.hid (mayBeNull_any m A c l w8 H8.out.1 (by have := HT.out.2.2.1; omega))
          generalize mayN m l = qn at *
          go_wp2_with fail
          refine HM.out.mono ?_
          rintro x w9 ⟨rfl, hb9⟩
          have H9 : Hid (Below w.heap.size w w9 ∧ Blk w9 w.heap.size 77 #[.int .i64 0, .bool false]) := Lib.hid ⟨thn H8.out.2.1 hb9, H8.out.2.2.below hb9 H8.out.2.2.lt⟩
          clear hb9
          have f0 := H9.out.2.frozen 0
          have f1 := H9.out.2.frozen 1
          have d0 := H9.out.2.cell 0
          have d1 := H9.out.2.cell 1
          simp only [List.getElem?_toArray, List.getElem?_cons_succ, List.getElem?_cons_zero] at d0 d1
          go_wp2_with fail
          have HB := (H9.out.2.set_ 0 (.int .i64 q)).set_ 1 (.bool qn)
          have k0 := HB.cell 0
          have k1 := HB.cell 1
          simp at k0 k1
          exact bodyPost_ret (v := .tuple #[.agg #[.int .i64 q, .bool qn], .bool true]) (by simp [results, Tryz.results131, go_sem, k0, k1]) rfl ⟨by rw [HR.out]; rfl, (H9.out.1.setCell (p := ⟨w.heap.size, 0, none⟩) (Nat.le_refl _) _).setCell (p := ⟨w.heap.size, 1, none⟩) (Nat.le_refl _) _⟩
      | false =>
        have HI : Hid ((if ki = 0 then (if ko = 0 then fstK l else ko) else ki) = ki) := Lib.hid (by rw [if_neg (by simpa using his)])
        have HA := Lib.hid (allAre_any q A c l x9.w HT9.out.1 (by have := HT.out.2.2.1; omega))
        cases hok : allK l q with
        | false =>
          have HR : Hid (kindP m l = none) := Lib.hid (by rw [HE.out]; unfold kindP2; rw [← HKo.out, HQ.out, hok]; rfl)
          rw [hok] at HA
          clear hok
          go_wp2_with fail
          refine HA.out.mono ?_
          rintro x w8 ⟨rfl, hb8⟩
          have H8 : Hid (KReads w8 w8.heap.size A l ∧ Below w.heap.size w w8 ∧ Blk w8 w.heap.size 77 #[.int .i64 0, .bool false]) := Lib.hid ⟨HT9.out.1.below hb8 hb8.size, thn HT9.out.2.1 hb8, HT9.out.2.2.1.below hb8 HT9.out.2.2.1.lt⟩
          clear hb8
          have f0 := H8.out.2.2.frozen 0
          have f1 := H8.out.2.2.frozen 1
          have d0 := H8.out.2.2.cell 0
          have d1 := H8.out.2.2.cell 1
          simp only [List.getElem?_toArray, List.getElem?_cons_succ, List.getElem?_cons_zero] at d0 d1
          go_wp2_with fail
          have HB := (H8.out.2.2.set_ 0 (.int .i64 0)).set_ 1 (.bool false)
          have k0 := HB.cell 0
          have k1 := HB.cell 1
          simp at k0 k1
          exact bodyPost_ret (v := .tuple #[.agg #[.int .i64 0, .bool false], .bool false]) (by simp [results, Tryz.results131, go_sem, k0, k1]) rfl ⟨by rw [HR.out]; rfl, (H8.out.2.1.setCell (p := ⟨w.heap.size, 0, none⟩) (Nat.le_refl _) _).setCell (p := ⟨w.heap.size, 1, none⟩) (Nat.le_refl _) _⟩
        | true =>
          have HR : Hid (kindP m l = some (ki, mayN m l)) := Lib.hid (by rw [HE.out]; unfold kindP2; rw [← HKo.out, ← HKi.out, HI.out, HQ.out, hok]; rfl)
          rw [hok] at HA
          clear hok
          go_wp2_with fail
          refine HA.out.mono ?_
          rintro x w8 ⟨rfl, hb8⟩
          have H8 : Hid (KReads w8 w8.heap.size A l ∧ Below w.heap.size w w8 ∧ Blk w8 w.heap.size 77 #[.int .i64 0, .bool false]) := Lib.hid ⟨HT9.out.1.below hb8 hb8.size, thn HT9.out.2.1 hb8, HT9.out.2.2.1.below hb8 HT9.out.2.2.1.lt⟩
          clear hb8
          have HM := Lib.hid (mayBeNull_any m A c l w8 H8.out.1 (by have := HT.out.2.2.1; omega))
          generalize mayN m l = qn at *
          go_wp2_with fail
          refine HM.out.mono ?_
          rintro x w9 ⟨rfl, hb9⟩
          have H9 : Hid (Below w.heap.size w w9 ∧ Blk w9 w.heap.size 77 #[.int .i64 0, .bool false]) := Lib.hid ⟨thn H8.out.2.1 hb9, H8.out.2.2.below hb9 H8.out.2.2.lt⟩
          clear hb9
          have f0 := H9.out.2.frozen 0
          have f1 := H9.out.2.frozen 1
          have d0 := H9.out.2.cell 0
          have d1 := H9.out.2.cell 1
          simp only [List.getElem?_toArray, List.getElem?_cons_succ, List.getElem?_cons_zero] at d0 d1
          go_wp2_with fail
          have HB := (H9.out.2.set_ 0 (.int .i64 ki)).set_ 1 (.bool qn)
          have k0 := HB.cell 0
          have k1 := HB.cell 1
          simp at k0 k1
          exact bodyPost_ret (v := .tuple #[.agg #[.int .i64 ki, .bool qn], .bool true]) (by simp [results, Tryz.results131, go_sem, k0, k1]) rfl ⟨by rw [HR.out]; rfl, (H9.out.1.setCell (p := ⟨w.heap.size, 0, none⟩) (Nat.le_refl _) _).setCell (p := ⟨w.heap.size, 1, none⟩) (Nat.le_refl _) _⟩
end Go.Proofs.YtdiehgfldndgbaaGreatDoor
