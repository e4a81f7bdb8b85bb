/-
  CONTRACTS of the reference's Word, Leaf and String.
-/
import Derived.Test.YtcbcncaoabablaaGreatDoorGA17
import Derived.Test.YtcbcncaoabablaaGreatDoorRWd
import Derived.Test.YtcbcncaoabablaaGreatDoorGA13
import Derived.Test.YtcbcncaoabablaaGreatDoorAft
import Derived.BigQuiet
namespace Go.Proofs.YtcbcncaoabablaaGreatDoor
open Go.RowKit Go.Deep

set_option maxHeartbeats 4000000 in
set_option maxRecDepth 100000 in
theorem RLeaf_any (e : E) (A R : Option Addr) (c d : Nat) (w : World) (hI : EIn e) (hnode : e.node = true) (h4 : e.op < 4) :
    Calls Tryz.prog 47 #[e.val A c R d] w fun x w' => x = .returned (.string ⟨(strE e).toArray⟩) ∧ Below w.heap.size w w' := by
  have HI := Lib.hid (And.intro hI hnode)
  have HE : Hid (strE e = leafB e.op e.n e.m e.kind e.lit) := Lib.hid (by rw [strE_of, if_pos h4])
  have hT : ∀ n w1, I64 n → Calls Tryz.prog 74 #[.int .i64 n] w1 fun e w' => e = .returned (.string ⟨(Lib.itoa n).toArray⟩) ∧ Below w1.heap.size w1 w' := fun n w1 hn => rDigits_any (n.natAbs + 1) n w1 (by omega) hn.1 hn.2
  have hn := node_cases hnode
  clear hI hnode
  unfold E.val
  rcases hn.2 with ⟨ho, r1, r2⟩ | ⟨ho, r1, r2, r3⟩ | ⟨ho, hk, hok, hlk, r1⟩ | ⟨ho, r1⟩
  · have HL : Hid (strE e = 36 :: Lib.itoa e.n) := Lib.hid (by rw [HE.out]; unfold leafB; rw [if_pos ho])
    rw [ho]
    clear hn h4 HE ho r1 r2
    obtain ⟨s1, hs1⟩ : ∃ s : ByteArray, s = ⟨(Lib.itoa e.n).toArray⟩ := ⟨_, rfl⟩
    have hz1 : s1.size ≤ 20 := by rw [hs1]; exact (itoa_len e.n HI.out.1.nums.2.1).1
    have H1 : Hid (s1.data.toList = Lib.itoa e.n) := Lib.hid (by rw [hs1])
    have HX := hT e.n (w.alloc (.cells #[.int .i64 1, .int .i64 e.n, .int .i64 e.m, .int .i64 e.kind, .int .i64 e.lit.k, .int .i64 e.lit.n, .string e.lit.s, .slice A e.args.length c, .slice R e.rels.length d] 29)) HI.out.1.nums.2.1
    rw [← hs1] at HX
    have HX := Lib.hid HX
    clear hs1 hT
    go_enter Tryz.func47, Tryz.ntmps47
    go_wp2_with fail
    refine HX.out.mono ?_
    rintro x w2 ⟨rfl, hb2⟩
    have H2 := Lib.hid (thn (al (Below.refl _ _) _) hb2)
    clear hb2
    go_wp2_with fail
    go_ret
    exact ⟨by rw [HL.out]; exact ret_ba (by simp [H1.out]), H2.out⟩
  · have HL : Hid (strE e = 94 :: (Lib.itoa e.n ++ 46 :: Lib.itoa e.m)) := Lib.hid (by rw [HE.out]; unfold leafB; rw [if_neg (by omega), if_pos ho])
    rw [ho]
    clear hn h4 HE ho r1 r2 r3
    obtain ⟨s1, hs1⟩ : ∃ s : ByteArray, s = ⟨(Lib.itoa e.n).toArray⟩ := ⟨_, rfl⟩
    have hz1 : s1.size ≤ 20 := by rw [hs1]; exact (itoa_len e.n HI.out.1.nums.2.1).1
    have H1 : Hid (s1.data.toList = Lib.itoa e.n) := Lib.hid (by rw [hs1])
    obtain ⟨s2, hs2⟩ : ∃ s : ByteArray, s = ⟨(Lib.itoa e.m).toArray⟩ := ⟨_, rfl⟩
    have hz2 : s2.size ≤ 20 := by rw [hs2]; exact (itoa_len e.m HI.out.1.nums.2.2.1).1
    have H2s : Hid (s2.data.toList = Lib.itoa e.m) := Lib.hid (by rw [hs2])
    have HS1 := Lib.hid hs1
    have HS2 := Lib.hid hs2
    have HT := Lib.hid hT
    clear hs1 hs2 hT
    go_enter Tryz.func47, Tryz.ntmps47
    go_upto_region 5 with fail
    have B0 := Blk.new w 29 #[.int .i64 2, .int .i64 e.n, .int .i64 e.m, .int .i64 e.kind, .int .i64 e.lit.k, .int .i64 e.lit.n, .string e.lit.s, .slice A e.args.length c, .slice R e.rels.length d]
    have HB := Lib.hid B0
    have c1 : ∀ x : Aft (w.alloc (.cells #[.int .i64 2, .int .i64 e.n, .int .i64 e.m, .int .i64 e.kind, .int .i64 e.lit.k, .int .i64 e.lit.n, .string e.lit.s, .slice A e.args.length c, .slice R e.rels.length d] 29)), x.w.cell? ⟨w.heap.size, 1, none⟩ = some (.int .i64 e.n) := fun x => (x.h.cell (p := ⟨w.heap.size, 1, none⟩) HB.out.lt).trans (HB.out.cell 1)
    have c2 : ∀ x : Aft (w.alloc (.cells #[.int .i64 2, .int .i64 e.n, .int .i64 e.m, .int .i64 e.kind, .int .i64 e.lit.k, .int .i64 e.lit.n, .string e.lit.s, .slice A e.args.length c, .slice R e.rels.length d] 29)), x.w.cell? ⟨w.heap.size, 2, none⟩ = some (.int .i64 e.m) := fun x => (x.h.cell (p := ⟨w.heap.size, 2, none⟩) HB.out.lt).trans (HB.out.cell 2)
    have HX : Hid (∀ x : Aft (w.alloc (.cells #[.int .i64 2, .int .i64 e.n, .int .i64 e.m, .int .i64 e.kind, .int .i64 e.lit.k, .int .i64 e.lit.n, .string e.lit.s, .slice A e.args.length c, .slice R e.rels.length d] 29)), Calls Tryz.prog 74 #[.int .i64 e.n] x.w fun y w' => y = .returned (.string s1) ∧ Below x.w.heap.size x.w w') := Lib.hid fun x => by rw [HS1.out]; exact HT.out e.n x.w HI.out.1.nums.2.1
    have HY : Hid (∀ x : Aft (w.alloc (.cells #[.int .i64 2, .int .i64 e.n, .int .i64 e.m, .int .i64 e.kind, .int .i64 e.lit.k, .int .i64 e.lit.n, .string e.lit.s, .slice A e.args.length c, .slice R e.rels.length d] 29)), Calls Tryz.prog 74 #[.int .i64 e.m] x.w fun y w' => y = .returned (.string s2) ∧ Below x.w.heap.size x.w w') := Lib.hid fun x => by rw [HS2.out]; exact HT.out e.m x.w HI.out.1.nums.2.2.1
    clear B0
    refine region_aft (by kernel_rfl) (by kernel_rfl) ?_
    repeat (go_big_quiet_step (first | (with_reducible exact aft_call (HX.out _)) | (with_reducible exact aft_call (HY.out _))))
    refine wpQuiet_nil ?_
    intro x9
    have H2 := Lib.hid (thn (al (Below.refl _ _) _) x9.h)
    clear HX HY c1 c2
    go_wp2_with fail
    go_ret
    exact ⟨by rw [HL.out]; exact ret_ba (by simp [H1.out, H2s.out]), H2.out⟩
  · rw [ho]
    cases hz : (e.lit.k == 0) with
    | true =>
      have hz0 : e.lit.k = 0 := by simpa using hz
      have HL : Hid (strE e = [110, 117, 108, 108, 58] ++ (kwB e.kind).data.toList) := Lib.hid (by rw [HE.out]; unfold leafB; rw [if_neg (by omega), if_neg (by omega), if_pos hz0])
      obtain ⟨kw, hkw⟩ : ∃ s : ByteArray, s = kwB e.kind := ⟨_, rfl⟩
      have hkz : kw.size ≤ 4 := by rw [hkw]; exact kwB_len _
      have HKw := Lib.hid hkw
      have HK : Hid (∀ w1, Calls Tryz.prog 75 #[.int .i64 e.kind] w1 fun e w' => e = .returned (.string kw) ∧ w1 = w') := Lib.hid fun w1 => by rw [hkw]; exact KindWord_any e.kind w1
      clear hkw hn h4 HE ho hok hlk hk hz0 r1 hT
      go_enter Tryz.func47, Tryz.ntmps47
      go_wp2_with fail
      refine (HK.out _).mono ?_
      rintro x w2 ⟨rfl, rfl⟩
      go_wp2_with fail
      go_ret
      exact ⟨by rw [HL.out]; exact ret_ba (by simp [HKw.out]), al (Below.refl _ _) _⟩
    | false =>
      have hz0 : ¬ e.lit.k = 0 := by simpa using hz
      have HL : Hid (strE e = strB e.lit.k e.lit.n e.lit.s) := Lib.hid (by rw [HE.out]; unfold leafB; rw [if_neg (by omega), if_neg (by omega), if_neg hz0])
      have HS : Hid (∀ w1, Calls Tryz.prog 76 #[.agg #[.int .i64 e.lit.k, .int .i64 e.lit.n, .string e.lit.s]] w1 fun x w' => x = .returned (.string ⟨(strE e).toArray⟩) ∧ Below w1.heap.size w1 w') := Lib.hid fun w1 => by
        rw [HL.out]
        exact rString_right e.lit.k e.lit.n e.lit.s w1 hok HI.out.1.nums.2.2.2.2.2.1
      generalize strE e = sb at *
      clear hn h4 HE ho hok hlk hk hz0 r1 hT
      go_enter Tryz.func47, Tryz.ntmps47
      go_wp2_with fail
      refine (HS.out _).mono ?_
      rintro x w2 ⟨rfl, hb2⟩
      have H2 := Lib.hid (thn (al (Below.refl _ _) _) hb2)
      clear hb2
      go_wp2_with fail
      go_ret
      exact ⟨rfl, H2.out⟩
  · omega
theorem nodesL_takele : ∀ (l : List E) (j : Nat), nodesL (l.take j) ≤ nodesL l
  | [], j => by simp [nodesL]
  | e :: l, 0 => by simp [nodesL]
  | e :: l, j + 1 => by
    simp only [List.take_succ_cons, nodesL]
    have := nodesL_takele l j
    omega
theorem joinE_len (q : Nat) : ∀ l : List E, (∀ x ∈ l, shapedE q x = true ∧ EIn x) → (joinS (l.map strE)).length ≤ 602 * nodesL l := by
  intro l h
  refine Nat.le_trans (joinS_len _) ?_
  rw [List.map_map]
  induction l with
  | nil => simp
  | cons x l ih =>
    have h1 := h x (List.mem_cons_self ..)
    have h2 := strE_len q x h1.1 h1.2
    have h3 := ih fun y hy => h y (List.mem_cons_of_mem _ hy)
    have h4 := nodesE_args x
    rw [List.map_cons, List.sum_cons]
    simp only [nodesL, Function.comp_apply]
    omega
set_option maxHeartbeats 8000000 in
set_option maxRecDepth 100000 in
theorem RString_any : ∀ (k q : Nat) (e : E) (A R : Option Addr) (c d : Nat) (w : World), nodesE e < k → k ≤ 1000 → EIn e → shapedE q e = true → LOk w (Lo w.heap.size) A e.args →
    Calls Tryz.prog 16 #[e.val A c R d] w fun x w' => x = .returned (.string ⟨(strE e).toArray⟩) ∧ Below w.heap.size w w' := by
  intro k
  induction k with
  | zero => intro q e A R c d w h; exact absurd h (Nat.not_lt_zero _)
  | succ k ih =>
    intro q e A R c d w hk hk1 hI hsh hA
    obtain ⟨q, rfl⟩ : ∃ q', q = q' + 1 := by
      cases q with
      | zero => rw [shapedE_zero] at hsh; cases hsh
      | succ q => exact ⟨q, rfl⟩
    have hlen := strE_len (q + 1) e hsh hI
    rw [shapedE_succ, Bool.and_eq_true] at hsh
    have hnE := nodesE_args e
    have hln := nodesL_len e.args
    by_cases h4 : e.op < 4
    · have HLf := Lib.hid (RLeaf_any e A R c d (w.alloc (.cells #[.int .i64 e.op, .int .i64 e.n, .int .i64 e.m, .int .i64 e.kind, .int .i64 e.lit.k, .int .i64 e.lit.n, .string e.lit.s, .slice A e.args.length c, .slice R e.rels.length d] 29)) hI hsh.1 h4)
      have h4d : decide (e.op < 4) = true := decide_eq_true h4
      clear ih hI hsh hA hlen
      unfold E.val at HLf ⊢
      go_enter Tryz.func16, Tryz.ntmps16
      go_wp2_with fail
      refine HLf.out.mono ?_
      rintro x w2 ⟨rfl, hb2⟩
      have H2 := Lib.hid (thn (al (Below.refl _ _) _) hb2)
      clear hb2
      go_wp2_with fail
      go_ret
      exact ⟨rfl, H2.out⟩
    · have h25 : e.op ≤ 25 := by
        rcases (node_cases hsh.1).2 with ⟨h, _⟩ | ⟨h, _⟩ | ⟨h, _⟩ | ⟨_, h, _⟩ <;> omega
      obtain ⟨m, hm⟩ : ∃ m : Nat, e.op = m := ⟨e.op.toNat, by omega⟩
      have hm4 : 4 ≤ m := by omega
      have hm25 : m ≤ 25 := by omega
      have HL : Hid (strE e = wordL m ++ 40 :: (joinS (e.args.map strE) ++ [41])) := Lib.hid (by rw [strE_of, if_neg h4, hm])
      have HWd := Lib.hid (Word_any m (w.alloc (.cells #[.int .i64 (m : Nat), .int .i64 e.n, .int .i64 e.m, .int .i64 e.kind, .int .i64 e.lit.k, .int .i64 e.lit.n, .string e.lit.s, .slice A e.args.length c, .slice R e.rels.length d] 29)) hm4 hm25)
      have hwz : (wordB (m : Nat)).size ≤ 8 := by
        have := wordL_len (m : Int)
        show (wordL (m : Int)).toArray.size ≤ 8
        simpa using this
      have HWl : Hid ((wordB (m : Nat)).data.toList = wordL m) := Lib.hid rfl
      have HA := Lib.hid (And.intro hA (And.intro hsh.2 hI))
      have IH := Lib.hid ih
      have HB : Hid (Below w.heap.size w (w.alloc (.cells #[.int .i64 (m : Nat), .int .i64 e.n, .int .i64 e.m, .int .i64 e.kind, .int .i64 e.lit.k, .int .i64 e.lit.n, .string e.lit.s, .slice A e.args.length c, .slice R e.rels.length d] 29)) ∧ Blk (w.alloc (.cells #[.int .i64 (m : Nat), .int .i64 e.n, .int .i64 e.m, .int .i64 e.kind, .int .i64 e.lit.k, .int .i64 e.lit.n, .string e.lit.s, .slice A e.args.length c, .slice R e.rels.length d] 29)) w.heap.size 29 #[.int .i64 (m : Nat), .int .i64 e.n, .int .i64 e.m, .int .i64 e.kind, .int .i64 e.lit.k, .int .i64 e.lit.n, .string e.lit.s, .slice A e.args.length c, .slice R e.rels.length d]) := Lib.hid ⟨al (Below.refl _ _) _, Blk.new w _ _⟩
      have hm4i : ¬ ((m : Int) < 4) := by omega
      have hm4d : decide ((m : Int) < 4) = false := decide_eq_false hm4i
      have hm4n : decide (m < 4) = false := decide_eq_false (by omega)
      unfold E.val
      rw [hm]
      clear ih hA hI hsh hlen h4 h25 hm
      generalize wordB (m : Nat) = wd at *
      go_enter Tryz.func16, Tryz.ntmps16
      go_wp2_with fail
      refine HWd.out.mono ?_
      rintro x w2 ⟨rfl, hb2⟩
      have H2 : Hid (Below w.heap.size w w2 ∧ Blk w2 w.heap.size 29 #[.int .i64 (m : Nat), .int .i64 e.n, .int .i64 e.m, .int .i64 e.kind, .int .i64 e.lit.k, .int .i64 e.lit.n, .string e.lit.s, .slice A e.args.length c, .slice R e.rels.length d]) := Lib.hid ⟨thn HB.out.1 hb2, HB.out.2.below hb2 HB.out.2.lt⟩
      clear hb2 HB HWd
      go_wp2_with fail
      go_loopw [3, 4] (fun sv iv wr => ∃ (j : Nat) (s : ByteArray), j ≤ e.args.length ∧ iv = .int .i64 j ∧ sv = .string s ∧ s.size ≤ 700000 ∧ Hid (s.data.toList = wordL m ++ 40 :: joinS ((e.args.take j).map strE)) ∧ Hid (Below w.heap.size w wr ∧ Blk wr w.heap.size 29 #[.int .i64 (m : Nat), .int .i64 e.n, .int .i64 e.m, .int .i64 e.kind, .int .i64 e.lit.k, .int .i64 e.lit.n, .string e.lit.s, .slice A e.args.length c, .slice R e.rels.length d])) (fun _ iv _ => e.args.length - (intOf iv).toNat)
      case atStart => exact ⟨0, _, Nat.zero_le _, rfl, rfl, by rw [ByteArray.size_append]; have : (⟨#[40]⟩ : ByteArray).size = 1 := rfl; omega, Lib.hid (by rw [List.take_zero]; simp [HWl.out, joinS]), H2⟩
      case round =>
        obtain ⟨j, s, hj, rfl, rfl, hsz, HS, HW⟩ := hrel
        have hq := HW.out.2
        have y7 := hq.cell 7
        simp only [List.getElem?_toArray, List.getElem?_cons_succ, List.getElem?_cons_zero] at y7
        clear hq
        by_cases hlt : j < e.args.length
        · have hlti : (j : Int) < (e.args.length : Int) := by omega
          have hj0 : (0 : Int) ≤ (j : Int) := by omega
          obtain ⟨b, o, hAe, hb, he⟩ := (HA.out.1.below HW.out.1 HW.out.1.size).at_ hlt
          rw [hAe] at y7
          have HAe := Lib.hid hAe
          clear hAe
          obtain ⟨z0, z1, z2, z3, z4, z5, z6, ⟨A1, c1, z7, z8⟩, R1, d1, z9, z10⟩ := EOk.mk_.1 he
          have x0 : wr.cell? ⟨b, o + j * 9, none⟩ = some (.int .i64 e.args[j].op) := z0
          have x1 : wr.cell? ⟨b, o + j * 9 + 1, none⟩ = some (.int .i64 e.args[j].n) := z1
          have x2 : wr.cell? ⟨b, o + j * 9 + 2, none⟩ = some (.int .i64 e.args[j].m) := z2
          have x3 : wr.cell? ⟨b, o + j * 9 + 3, none⟩ = some (.int .i64 e.args[j].kind) := z3
          have x4 : wr.cell? ⟨b, o + j * 9 + 4, none⟩ = some (.int .i64 e.args[j].lit.k) := z4
          have x5 : wr.cell? ⟨b, o + j * 9 + 5, none⟩ = some (.int .i64 e.args[j].lit.n) := z5
          have x6 : wr.cell? ⟨b, o + j * 9 + 6, none⟩ = some (.string e.args[j].lit.s) := z6
          have x7 : wr.cell? ⟨b, o + j * 9 + 7, none⟩ = some (.slice A1 e.args[j].args.length c1) := z7
          have x8 : wr.cell? ⟨b, o + j * 9 + 8, none⟩ = some (.slice R1 e.args[j].rels.length d1) := z9
          have hnm := nodesL_mem (List.getElem_mem hlt)
          have hInj := LIn.mem (EIn.args HA.out.2.2) _ (List.getElem_mem hlt)
          have hshj := shapedL_mem HA.out.2.1 _ (List.getElem_mem hlt)
          have hHK := IH.out q e.args[j] A1 R1 c1 d1 wr (by omega) (by omega) hInj hshj z8
          have hxl := strE_len q _ hshj hInj
          have HJn := Lib.hid (joinE_len q (e.args.take (j + 1)) fun x hx => ⟨shapedL_mem HA.out.2.1 x (List.mem_of_mem_take hx), LIn.mem (EIn.args HA.out.2.2) x (List.mem_of_mem_take hx)⟩)
          have hnt : nodesL (e.args.take (j + 1)) ≤ nodesL e.args := by
            have := nodesL_takele e.args (j + 1)
            exact this
          have HTk : Hid ((e.args.take (j + 1)).map strE = (e.args.take j).map strE ++ [strE e.args[j]]) := Lib.hid (by rw [List.take_succ_eq_append_getElem hlt, List.map_append]; rfl)
          obtain ⟨s5, hs5⟩ : ∃ t : ByteArray, t = ⟨(strE e.args[j]).toArray⟩ := ⟨_, rfl⟩
          have hz5 : s5.size ≤ 700000 := by
            rw [hs5]
            show (strE e.args[j]).toArray.size ≤ 700000
            simp
            omega
          have HS5 : Hid (s5.data.toList = strE e.args[j]) := Lib.hid (by rw [hs5])
          rw [← hs5] at hHK
          have HK := Lib.hid hHK
          have hwl := wordL_len (m : Int)
          have HWL := Lib.hid hwl
          clear z0 z1 z2 z3 z4 z5 z6 z7 z8 z9 z10 he hnm hInj hshj hxl hs5 hHK hwl
          generalize strE e.args[j] = st at *
          generalize e.args[j] = ei at *
          unfold E.val at HK
          by_cases hj1 : j = 0
          · have hjg : ¬ ((0 : Int) < (j : Int)) := by omega
            have hjn : ¬ (0 < j) := by omega
            have hjd : decide ((0 : Int) < (j : Int)) = false := decide_eq_false hjg
            have hjd2 : decide (0 < j) = false := decide_eq_false hjn
            have HN : Hid (∀ t : ByteArray, t = s ++ s5 → t.data.toList = wordL m ++ 40 :: joinS ((e.args.take (j + 1)).map strE)) := Lib.hid fun t ht => by
              rw [ht, HTk.out]
              have h1 := HS.out
              have h2 := HS5.out
              rw [hj1, List.take_zero] at h1 ⊢
              simp [h1, h2, joinS]
            clear hj1
            go_wp2_with fail
            refine HK.out.mono ?_
            rintro x w3 ⟨rfl, hb3⟩
            have HW3 : Hid (Below w.heap.size w w3 ∧ Blk w3 w.heap.size 29 #[.int .i64 (m : Nat), .int .i64 e.n, .int .i64 e.m, .int .i64 e.kind, .int .i64 e.lit.k, .int .i64 e.lit.n, .string e.lit.s, .slice A e.args.length c, .slice R e.rels.length d]) := Lib.hid ⟨thn HW.out.1 hb3, HW.out.2.below hb3 HW.out.2.lt⟩
            have HN1 := Lib.hid (HN.out _ rfl)
            have hszn : (s ++ s5).size ≤ 700000 := by
              have h1 := congrArg List.length HN1.out
              have h2 := HJn.out
              have h3 := HWL.out
              rw [show (s ++ s5).data.toList.length = (s ++ s5).size from rfl] at h1
              rw [h1]
              simp at h2 h3 ⊢
              omega
            clear hb3 HK
            go_wp2_with fail
            go_roundw
            case rel => exact ⟨j + 1, s ++ s5, by omega, by go_num, rfl, hszn, HN1, HW3⟩
            case measure => simp [intOf]; omega
          · have hjg : (0 : Int) < (j : Int) := by omega
            have hjn : 0 < j := by omega
            have HN : Hid (∀ t : ByteArray, t = (s ++ ⟨#[44, 32]⟩) ++ s5 → t.data.toList = wordL m ++ 40 :: joinS ((e.args.take (j + 1)).map strE)) := Lib.hid fun t ht => by
              rw [ht, HTk.out, joinS_snoc, if_neg (by intro h; have := congrArg List.length h; rw [List.length_map, List.length_take, List.length_nil] at this; omega)]
              have h1 := HS.out
              have h2 := HS5.out
              simp [h1, h2]
            go_wp2_with fail
            refine HK.out.mono ?_
            rintro x w3 ⟨rfl, hb3⟩
            have HW3 : Hid (Below w.heap.size w w3 ∧ Blk w3 w.heap.size 29 #[.int .i64 (m : Nat), .int .i64 e.n, .int .i64 e.m, .int .i64 e.kind, .int .i64 e.lit.k, .int .i64 e.lit.n, .string e.lit.s, .slice A e.args.length c, .slice R e.rels.length d]) := Lib.hid ⟨thn HW.out.1 hb3, HW.out.2.below hb3 HW.out.2.lt⟩
            have HN1 := Lib.hid (HN.out _ rfl)
            have hszn : ((s ++ ⟨#[44, 32]⟩) ++ s5).size ≤ 700000 := by
              have h1 := congrArg List.length HN1.out
              have h2 := HJn.out
              have h3 := HWL.out
              rw [show ((s ++ ⟨#[44, 32]⟩) ++ s5).data.toList.length = ((s ++ ⟨#[44, 32]⟩) ++ s5).size from rfl] at h1
              rw [h1]
              simp at h2 h3 ⊢
              omega
            clear hb3 HK
            go_wp2_with fail
            go_roundw
            case rel => exact ⟨j + 1, (s ++ ⟨#[44, 32]⟩) ++ s5, by omega, by go_num, rfl, hszn, HN1, HW3⟩
            case measure => simp [intOf]; omega
        · have hlf : decide ((j : Int) < (e.args.length : Int)) = false := decide_eq_false (by omega)
          have HF : Hid (s.data.toList = wordL m ++ 40 :: joinS (e.args.map strE)) := Lib.hid (by
            have h := HS.out
            rwa [List.take_of_length_le (by omega)] at h)
          go_wp2_with fail
          go_ret
          exact ⟨by rw [HL.out]; exact ret_ba (by simp [HF.out]), HW.out.1⟩
end Go.Proofs.YtcbcncaoabablaaGreatDoor
