/-
  CONTRACT of the reference's Same: equal data.
-/
import Derived.Test.YtdiehgfldndgbaaGreatDoorGA08
import Derived.Test.YtdiehgfldndgbaaGreatDoorAft
namespace Go.Proofs.YtdiehgfldndgbaaGreatDoor
open Go.RowKit Go.Deep

theorem sameE_eq (e f : E) : sameE e f = ((e.op == f.op) && ((e.n == f.n) && ((e.m == f.m) && ((e.kind == f.kind) && (veq e.lit.k e.lit.n e.lit.s f.lit.k f.lit.n f.lit.s && (((e.args.length : Int) == (f.args.length : Int)) && (((e.rels.length : Int) == (f.rels.length : Int)) && sameL e.args f.args))))))) := by
  obtain ⟨op, n, m, k, ⟨lk, ln, ls⟩, args, rels⟩ := e
  obtain ⟨op', n', m', k', ⟨lk', ln', ls'⟩, args', rels'⟩ := f
  have cast : ∀ a b : Nat, ((a : Int) == (b : Int)) = (a == b) := fun a b => by rw [Bool.eq_iff_iff]; simp; omega
  rw [sameE]
  unfold veq
  rw [ByteArray.toList_eq, ByteArray.toList_eq]
  simp only [E.op, E.n, E.m, E.kind, E.lit, E.args, E.rels, Bool.and_assoc, cast]
theorem sameL_take : ∀ (l l' : List E) (k : Nat) (h : k < l.length) (h' : k < l'.length), sameL (l.take k) (l'.take k) = true → sameL (l.take (k + 1)) (l'.take (k + 1)) = sameE l[k] l'[k]
  | e :: l, e' :: l', 0, _, _, _ => by simp [sameL]
  | e :: l, e' :: l', k + 1, h, h', hk => by
    simp only [List.take_succ_cons, sameL, Bool.and_eq_true] at hk ⊢
    rw [hk.1, Bool.true_and]
    exact sameL_take l l' k (by simpa using h) (by simpa using h') hk.2
theorem sameL_stop : ∀ (l l' : List E) (k : Nat) (h : k < l.length) (h' : k < l'.length), sameE l[k] l'[k] = false → sameL l l' = false
  | e :: l, e' :: l', 0, _, _, hk => by
    simp only [List.getElem_cons_zero] at hk
    rw [sameL, hk]; rfl
  | e :: l, e' :: l', k + 1, h, h', hk => by
    rw [sameL, sameL_stop l l' k (by simpa using h) (by simpa using h') (by simpa using hk), Bool.and_false]
/-- the nine cells of an element, at every world behind W -/
theorem LOk.aft {W : World} {A : Option Addr} {l : List E} (h : LOk W (Lo W.heap.size) A l) {i : Nat} (hi : i < l.length) : ∃ b o A' c R d, A = some ⟨b, o, none⟩ ∧ LOk W (Lo W.heap.size) A' l[i].args ∧
    ∀ x : Aft W, x.w.cell? ⟨b, o + i * 9, none⟩ = some (.int .i64 l[i].op) ∧ x.w.cell? ⟨b, o + i * 9 + 1, none⟩ = some (.int .i64 l[i].n) ∧ x.w.cell? ⟨b, o + i * 9 + 2, none⟩ = some (.int .i64 l[i].m) ∧ x.w.cell? ⟨b, o + i * 9 + 3, none⟩ = some (.int .i64 l[i].kind) ∧ x.w.cell? ⟨b, o + i * 9 + 4, none⟩ = some (.int .i64 l[i].lit.k) ∧ x.w.cell? ⟨b, o + i * 9 + 5, none⟩ = some (.int .i64 l[i].lit.n) ∧ x.w.cell? ⟨b, o + i * 9 + 6, none⟩ = some (.string l[i].lit.s) ∧ x.w.cell? ⟨b, o + i * 9 + 7, none⟩ = some (.slice A' l[i].args.length c) ∧ x.w.cell? ⟨b, o + i * 9 + 8, none⟩ = some (.slice R l[i].rels.length d) := by
  obtain ⟨b, o, rfl, hb, he⟩ := h.at_ hi
  obtain ⟨z0, z1, z2, z3, z4, z5, z6, ⟨A', c, z7, z8⟩, R, d, z9, z10⟩ := EOk.mk_.1 he
  refine ⟨b, o, A', c, R, d, rfl, z8, fun x => ?_⟩
  have k : ∀ j, x.w.cell? ⟨b, o + i * 9 + j, none⟩ = W.cell? ⟨b, o + i * 9 + j, none⟩ := fun j => x.h.cell (p := ⟨b, _, none⟩) hb
  exact ⟨(k 0).trans z0, (k 1).trans z1, (k 2).trans z2, (k 3).trans z3, (k 4).trans z4, (k 5).trans z5, (k 6).trans z6, (k 7).trans z7, (k 8).trans z9⟩
set_option maxHeartbeats 8000000 in
set_option maxRecDepth 100000 in
theorem Same_in (k : Nat) (ih : ∀ (e f : E) (A R : Option Addr) (c d : Nat) (A' R' : Option Addr) (c' d' : Nat) (w : World), nodesE e < k → k ≤ 1000000 → LOk w (Lo w.heap.size) A e.args → LOk w (Lo w.heap.size) A' f.args →
      Calls Tryz.prog 19 #[e.val A c R d, f.val A' c' R' d'] w fun x w' => x = .returned (.bool (sameE e f)) ∧ Below w.heap.size w w')
    (e f : E) (A R : Option Addr) (c d : Nat) (A' R' : Option Addr) (c' d' : Nat) (w : World) (hk : nodesE e < k + 1) (hk1 : k + 1 ≤ 1000000) (hA : LOk w (Lo w.heap.size) A e.args) (hB : LOk w (Lo w.heap.size) A' f.args) (h1 : (e.op == f.op) = true) (h2 : (e.n == f.n) = true) (h3 : (e.m == f.m) = true) (h4 : (e.kind == f.kind) = true) (h5 : veq e.lit.k e.lit.n e.lit.s f.lit.k f.lit.n f.lit.s = true) (h6 : ((e.args.length : Int) == (f.args.length : Int)) = true) (h7 : ((e.rels.length : Int) == (f.rels.length : Int)) = true) :
    Calls Tryz.prog 19 #[.agg #[.int .i64 e.op, .int .i64 e.n, .int .i64 e.m, .int .i64 e.kind, .int .i64 e.lit.k, .int .i64 e.lit.n, .string e.lit.s, .slice A e.args.length c, .slice R e.rels.length d], .agg #[.int .i64 f.op, .int .i64 f.n, .int .i64 f.m, .int .i64 f.kind, .int .i64 f.lit.k, .int .i64 f.lit.n, .string f.lit.s, .slice A' f.args.length c', .slice R' f.rels.length d']] w fun x w' => x = .returned (.bool (sameE e f)) ∧ Below w.heap.size w w' := by
  have HS : Hid (sameE e f = sameL e.args f.args) := Lib.hid (by rw [sameE_eq]; simp only [h1, h2, h3, h4, h5, h6, h7, Bool.true_and])
  have hne := @neqV0
  have gh1 : (e.op != f.op) = false := by simp only [bne, h1, Bool.not_true]
  have gh2 : (e.n != f.n) = false := by simp only [bne, h2, Bool.not_true]
  have gh3 : (e.m != f.m) = false := by simp only [bne, h3, Bool.not_true]
  have gh4 : (e.kind != f.kind) = false := by simp only [bne, h4, Bool.not_true]
  have gh6 : ((e.args.length : Int) != (f.args.length : Int)) = false := by simp only [bne, h6, Bool.not_true]
  have gh7 : ((e.rels.length : Int) != (f.rels.length : Int)) = false := by simp only [bne, h7, Bool.not_true]
  have hlen : e.args.length = f.args.length := by
    have := eq_of_beq h6; omega
  have hl := nodesL_len e.args
  have hn := nodesE_args e
  have HLn := Lib.hid hlen
  have hfl : f.args.length ≤ 1000000 := by omega
  have IH := Lib.hid ih
  have HA := Lib.hid (And.intro hA hB)
  clear ih hA hB hlen
  go_enter Tryz.func19, Tryz.ntmps19
  go_wp2_with fail
  have HW1 : Hid (Below w.heap.size w ((w.alloc (.cells #[.int .i64 e.op, .int .i64 e.n, .int .i64 e.m, .int .i64 e.kind, .int .i64 e.lit.k, .int .i64 e.lit.n, .string e.lit.s, .slice A e.args.length c, .slice R e.rels.length d] 30)).alloc (.cells #[.int .i64 f.op, .int .i64 f.n, .int .i64 f.m, .int .i64 f.kind, .int .i64 f.lit.k, .int .i64 f.lit.n, .string f.lit.s, .slice A' f.args.length c', .slice R' f.rels.length d'] 30)) ∧ Blk ((w.alloc (.cells #[.int .i64 e.op, .int .i64 e.n, .int .i64 e.m, .int .i64 e.kind, .int .i64 e.lit.k, .int .i64 e.lit.n, .string e.lit.s, .slice A e.args.length c, .slice R e.rels.length d] 30)).alloc (.cells #[.int .i64 f.op, .int .i64 f.n, .int .i64 f.m, .int .i64 f.kind, .int .i64 f.lit.k, .int .i64 f.lit.n, .string f.lit.s, .slice A' f.args.length c', .slice R' f.rels.length d'] 30)) w.heap.size 30 #[.int .i64 e.op, .int .i64 e.n, .int .i64 e.m, .int .i64 e.kind, .int .i64 e.lit.k, .int .i64 e.lit.n, .string e.lit.s, .slice A e.args.length c, .slice R e.rels.length d] ∧ Blk ((w.alloc (.cells #[.int .i64 e.op, .int .i64 e.n, .int .i64 e.m, .int .i64 e.kind, .int .i64 e.lit.k, .int .i64 e.lit.n, .string e.lit.s, .slice A e.args.length c, .slice R e.rels.length d] 30)).alloc (.cells #[.int .i64 f.op, .int .i64 f.n, .int .i64 f.m, .int .i64 f.kind, .int .i64 f.lit.k, .int .i64 f.lit.n, .string f.lit.s, .slice A' f.args.length c', .slice R' f.rels.length d'] 30)) (w.heap.size + 1) 30 #[.int .i64 f.op, .int .i64 f.n, .int .i64 f.m, .int .i64 f.kind, .int .i64 f.lit.k, .int .i64 f.lit.n, .string f.lit.s, .slice A' f.args.length c', .slice R' f.rels.length d']) := Lib.hid ⟨al (al (Below.refl _ _) _) _, (Blk.new w 30 _).alloc _, Blk.new' (by simp)⟩
  go_loopw [5] (fun iv wr => ∃ i : Nat, i ≤ e.args.length ∧ iv = .int .i64 i ∧ Hid (Below ((w.alloc (.cells #[.int .i64 e.op, .int .i64 e.n, .int .i64 e.m, .int .i64 e.kind, .int .i64 e.lit.k, .int .i64 e.lit.n, .string e.lit.s, .slice A e.args.length c, .slice R e.rels.length d] 30)).alloc (.cells #[.int .i64 f.op, .int .i64 f.n, .int .i64 f.m, .int .i64 f.kind, .int .i64 f.lit.k, .int .i64 f.lit.n, .string f.lit.s, .slice A' f.args.length c', .slice R' f.rels.length d'] 30)).heap.size ((w.alloc (.cells #[.int .i64 e.op, .int .i64 e.n, .int .i64 e.m, .int .i64 e.kind, .int .i64 e.lit.k, .int .i64 e.lit.n, .string e.lit.s, .slice A e.args.length c, .slice R e.rels.length d] 30)).alloc (.cells #[.int .i64 f.op, .int .i64 f.n, .int .i64 f.m, .int .i64 f.kind, .int .i64 f.lit.k, .int .i64 f.lit.n, .string f.lit.s, .slice A' f.args.length c', .slice R' f.rels.length d'] 30)) wr) ∧ Hid (sameL (e.args.take i) (f.args.take i) = true)) (fun iv _ => e.args.length - (intOf iv).toNat)
  case atStart => exact ⟨0, Nat.zero_le _, rfl, Lib.hid (Below.refl _ _), Lib.hid (by simp [sameL])⟩
  case round =>
    obtain ⟨i, hi, rfl, HI, HT⟩ := hrel
    have HW : Hid (Below w.heap.size w wr) := Lib.hid (thn HW1.out.1 HI.out)
    have B1 := HW1.out.2.1.below HI.out HW1.out.2.1.lt
    have B2 := HW1.out.2.2.below HI.out HW1.out.2.2.lt
    have b7 := B1.cell 7
    change wr.cell? ⟨w.heap.size, 7, none⟩ = some (.slice A e.args.length c) at b7
    by_cases hlt : i < e.args.length
    · have hlti : (i : Int) < (e.args.length : Int) := by omega
      have hltf : i < f.args.length := by rw [← HLn.out]; exact hlt
      have hltfi : (i : Int) < (f.args.length : Int) := by omega
      have X7 : ∀ x : Aft wr, x.w.cell? ⟨w.heap.size, 7, none⟩ = some (.slice A e.args.length c) := fun x => (x.h.cell (p := ⟨w.heap.size, 7, none⟩) B1.lt).trans b7
      have Y7 : ∀ x : Aft wr, x.w.cell? ⟨w.heap.size + 1, 7, none⟩ = some (.slice A' f.args.length c') := fun x => (x.h.cell (p := ⟨w.heap.size + 1, 7, none⟩) B2.lt).trans (B2.cell 7)
      obtain ⟨b, o, A1, c1, R1, d1, rfl, hA1, hX⟩ := (HA.out.1.below HW.out HW.out.size).aft hlt
      obtain ⟨b', o', A2, c2, R2, d2, rfl, hA2, hY⟩ := (HA.out.2.below HW.out HW.out.size).aft hltf
      have hm := nodesL_mem (List.getElem_mem hlt)
      have hsz : nodesE e.args[i] < k := by omega
      have HSt := Lib.hid (sameL_take e.args f.args i hlt hltf HT.out)
      have HSp := Lib.hid (sameL_stop e.args f.args i hlt hltf)
      have HX : Hid (∀ x : Aft wr, Calls Tryz.prog 19 #[e.args[i].val (A1) c1 R1 d1, f.args[i].val A2 c2 R2 d2] x.w fun y w' => y = .returned (.bool (sameE e.args[i] f.args[i])) ∧ Below x.w.heap.size x.w w') := Lib.hid fun x => IH.out _ _ _ _ _ _ _ _ _ _ x.w hsz (by omega) (hA1.below x.h x.h.size) (hA2.below x.h x.h.size)
      clear hm hsz hA1 hA2 B1 B2 b7
      generalize e.args[i] = ei at *
      generalize f.args[i] = fi at *
      have X0 := fun x => (hX x).1
      have X1 := fun x => (hX x).2.1
      have X2 := fun x => (hX x).2.2.1
      have X3 := fun x => (hX x).2.2.2.1
      have X4 := fun x => (hX x).2.2.2.2.1
      have X5 := fun x => (hX x).2.2.2.2.2.1
      have X6 := fun x => (hX x).2.2.2.2.2.2.1
      have X8 := fun x => (hX x).2.2.2.2.2.2.2.1
      have X9 := fun x => (hX x).2.2.2.2.2.2.2.2
      have Y0 := fun x => (hY x).1
      have Y1 := fun x => (hY x).2.1
      have Y2 := fun x => (hY x).2.2.1
      have Y3 := fun x => (hY x).2.2.2.1
      have Y4 := fun x => (hY x).2.2.2.2.1
      have Y5 := fun x => (hY x).2.2.2.2.2.1
      have Y6 := fun x => (hY x).2.2.2.2.2.2.1
      have Y8 := fun x => (hY x).2.2.2.2.2.2.2.1
      have Y9 := fun x => (hY x).2.2.2.2.2.2.2.2
      clear hX hY
      unfold E.val at HX
      have b7 := X7 ⟨wr, Below.refl _ _⟩
      simp only at b7
      cases hq : sameE ei fi with
      | true =>
        have HN : Hid (sameL (e.args.take (i + 1)) (f.args.take (i + 1)) = true) := Lib.hid (by rw [HSt.out, hq])
        rw [hq] at HX
        clear hq HSt HSp
        go_wp2_with fail
        refine region_aft (by kernel_rfl) (by kernel_rfl) ?_
        repeat (go_big_quiet_step ((with_reducible exact aft_call (HX.out _))))
        refine wpQuiet_nil ?_
        intro x9
        have HI2 := Lib.hid (thn HI.out x9.h)
        clear X0 X1 X2 X3 X4 X5 X6 X7 X8 X9 Y0 Y1 Y2 Y3 Y4 Y5 Y6 Y7 Y8 Y9 HX b7
        go_wp2_with fail
        go_roundw
        case rel => exact ⟨i + 1, by omega, by go_num, HI2, HN⟩
        case measure => simp [intOf]; omega
      | false =>
        have HN : Hid (sameE e f = false) := Lib.hid (by rw [HS.out]; exact HSp.out hq)
        rw [hq] at HX
        clear hq HSt HSp
        go_wp2_with fail
        refine region_aft (by kernel_rfl) (by kernel_rfl) ?_
        repeat (go_big_quiet_step ((with_reducible exact aft_call (HX.out _))))
        refine wpQuiet_nil ?_
        intro x9
        have HI2 := Lib.hid (thn HW.out x9.h)
        clear X0 X1 X2 X3 X4 X5 X6 X7 X8 X9 Y0 Y1 Y2 Y3 Y4 Y5 Y6 Y7 Y8 Y9 HX b7
        go_wp2_with fail
        go_ret
        exact ⟨by rw [HN.out]; rfl, HI2.out⟩
    · have hlf : decide ((i : Int) < (e.args.length : Int)) = false := decide_eq_false (by omega)
      have HN : Hid (sameE e f = true) := Lib.hid (by
        rw [HS.out]
        have h := HT.out
        rw [List.take_of_length_le (by omega), List.take_of_length_le (by rw [← HLn.out]; omega)] at h
        exact h)
      clear B1 B2
      go_wp2_with fail
      go_ret
      exact ⟨by rw [HN.out]; rfl, HW.out⟩
set_option maxHeartbeats 8000000 in
set_option maxRecDepth 100000 in
theorem RSame_any : ∀ (k : Nat) (e f : E) (A R : Option Addr) (c d : Nat) (A' R' : Option Addr) (c' d' : Nat) (w : World), nodesE e < k → k ≤ 1000000 → LOk w (Lo w.heap.size) A e.args → LOk w (Lo w.heap.size) A' f.args →
    Calls Tryz.prog 19 #[e.val A c R d, f.val A' c' R' d'] w fun x w' => x = .returned (.bool (sameE e f)) ∧ Below w.heap.size w w' := by
  intro k
  induction k with
  | zero => intro e f A R c d A' R' c' d' w h; exact absurd h (Nat.not_lt_zero _)
  | succ k ih =>
    intro e f A R c d A' R' c' d' w hk hk1 hA hB
    have HS := Lib.hid (sameE_eq e f)
    have hne := @neqV0
    unfold E.val
    cases h1 : (e.op == f.op) with
    | false =>
      have gh1 : (e.op != f.op) = true := by simp only [bne, h1, Bool.not_false]
      have HE : Hid (sameE e f = false) := Lib.hid (by rw [HS.out]; simp only [h1, Bool.false_and])
      clear ih
      go_enter Tryz.func19, Tryz.ntmps19
      go_wp2_with fail
      go_ret
      exact ⟨by rw [HE.out]; rfl, al (al (Below.refl _ _) _) _⟩
    | true =>
      have gh1 : (e.op != f.op) = false := by simp only [bne, h1, Bool.not_true]
      cases h2 : (e.n == f.n) with
      | false =>
        have gh2 : (e.n != f.n) = true := by simp only [bne, h2, Bool.not_false]
        have HE : Hid (sameE e f = false) := Lib.hid (by rw [HS.out]; simp only [h1, h2, Bool.false_and, Bool.and_false])
        clear ih
        go_enter Tryz.func19, Tryz.ntmps19
        go_wp2_with fail
        go_ret
        exact ⟨by rw [HE.out]; rfl, al (al (Below.refl _ _) _) _⟩
      | true =>
        have gh2 : (e.n != f.n) = false := by simp only [bne, h2, Bool.not_true]
        cases h3 : (e.m == f.m) with
        | false =>
          have gh3 : (e.m != f.m) = true := by simp only [bne, h3, Bool.not_false]
          have HE : Hid (sameE e f = false) := Lib.hid (by rw [HS.out]; simp only [h1, h2, h3, Bool.false_and, Bool.and_false])
          clear ih
          go_enter Tryz.func19, Tryz.ntmps19
          go_wp2_with fail
          go_ret
          exact ⟨by rw [HE.out]; rfl, al (al (Below.refl _ _) _) _⟩
        | true =>
          have gh3 : (e.m != f.m) = false := by simp only [bne, h3, Bool.not_true]
          cases h4 : (e.kind == f.kind) with
          | false =>
            have gh4 : (e.kind != f.kind) = true := by simp only [bne, h4, Bool.not_false]
            have HE : Hid (sameE e f = false) := Lib.hid (by rw [HS.out]; simp only [h1, h2, h3, h4, Bool.false_and, Bool.and_false])
            clear ih
            go_enter Tryz.func19, Tryz.ntmps19
            go_wp2_with fail
            go_ret
            exact ⟨by rw [HE.out]; rfl, al (al (Below.refl _ _) _) _⟩
          | true =>
            have gh4 : (e.kind != f.kind) = false := by simp only [bne, h4, Bool.not_true]
            cases h5 : veq e.lit.k e.lit.n e.lit.s f.lit.k f.lit.n f.lit.s with
            | false =>
              have HE : Hid (sameE e f = false) := Lib.hid (by rw [HS.out]; simp only [h1, h2, h3, h4, h5, Bool.false_and, Bool.and_false])
              clear ih
              go_enter Tryz.func19, Tryz.ntmps19
              go_wp2_with fail
              go_ret
              exact ⟨by rw [HE.out]; rfl, al (al (Below.refl _ _) _) _⟩
            | true =>
              cases h6 : ((e.args.length : Int) == (f.args.length : Int)) with
              | false =>
                have gh6 : ((e.args.length : Int) != (f.args.length : Int)) = true := by simp only [bne, h6, Bool.not_false]
                have HE : Hid (sameE e f = false) := Lib.hid (by rw [HS.out]; simp only [h1, h2, h3, h4, h5, h6, Bool.false_and, Bool.and_false])
                clear ih
                go_enter Tryz.func19, Tryz.ntmps19
                go_wp2_with fail
                go_ret
                exact ⟨by rw [HE.out]; rfl, al (al (Below.refl _ _) _) _⟩
              | true =>
                have gh6 : ((e.args.length : Int) != (f.args.length : Int)) = false := by simp only [bne, h6, Bool.not_true]
                cases h7 : ((e.rels.length : Int) == (f.rels.length : Int)) with
                | false =>
                  have gh7 : ((e.rels.length : Int) != (f.rels.length : Int)) = true := by simp only [bne, h7, Bool.not_false]
                  have HE : Hid (sameE e f = false) := Lib.hid (by rw [HS.out]; simp only [h1, h2, h3, h4, h5, h6, h7, Bool.false_and, Bool.and_false])
                  clear ih
                  go_enter Tryz.func19, Tryz.ntmps19
                  go_wp2_with fail
                  go_ret
                  exact ⟨by rw [HE.out]; rfl, al (al (Below.refl _ _) _) _⟩
                | true =>
                  have gh7 : ((e.rels.length : Int) != (f.rels.length : Int)) = false := by simp only [bne, h7, Bool.not_true]
                  exact Same_in k ih e f A R c d A' R' c' d' w hk hk1 hA hB h1 h2 h3 h4 h5 h6 h7
end Go.Proofs.YtdiehgfldndgbaaGreatDoor
