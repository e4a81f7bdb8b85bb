/-
  CONTRACT of the reference's Kind.
-/
import Derived.Test.YtcbcncaoabablaaGreatDoorCmb
import Derived.Test.YtcbcncaoabablaaGreatDoorGA16
namespace Go.Proofs.YtcbcncaoabablaaGreatDoor
open Go.RowKit Go.Deep

theorem kindC_out {cs : List Co} {e : E} (h : e.op = 2) : kindC cs e = ((0, false), false) := by unfold kindC; rw [if_pos h]
theorem kindC_col {cs : List Co} {e : E} {n : Nat} (h : e.op = 1) (hn : e.n = n) : kindC cs e = match cs[n]? with
    | none => ((0, false), false)
    | some c => (c, true) := by
  unfold kindC
  rw [if_neg (by omega), if_pos h, if_neg (by omega), hn]
  rfl
theorem kindC_none {cs : List Co} {e : E} (h1 : e.op ≠ 1) (h2 : e.op ≠ 2) (h : kindL cs e.args = none) : kindC cs e = ((0, false), false) := by unfold kindC; rw [if_neg h2, if_neg h1, h]
theorem kindC_some {cs : List Co} {e : E} {l : List Co} (h1 : e.op ≠ 1) (h2 : e.op ≠ 2) (h : kindL cs e.args = some l) : kindC cs e = combC e.op e.kind e.lit.k l := by unfold kindC; rw [if_neg h2, if_neg h1, h]
theorem many_odd {n : Nat} (h : manyB 24 n = true) : n % 2 = 1 := by
  simp [manyB] at h
  have h2 := h.1.2
  rw [Int.tmod_eq_emod_of_nonneg (by omega)] at h2
  omega
set_option maxHeartbeats 8000000 in
set_option maxRecDepth 100000 in
theorem RKind_any : ∀ (k q : Nat) (e : E) (A R : Option Addr) (c d : Nat) (cs : List Co) (Ac : Option Addr) (cc : Nat) (w : World), nodesE e < k → k ≤ 1000000 → shapedE q e = true → LOk w (Lo w.heap.size) A e.args → KReads w w.heap.size Ac cs → cs.length ≤ 1000 →
    Calls Tryz.prog 22 #[e.val A c R d, .slice Ac cs.length cc] w fun x w' => x = .returned (.tuple #[.agg #[.int .i64 (kindC cs e).1.1, .bool (kindC cs e).1.2], .bool (kindC cs e).2]) ∧ Below w.heap.size w w' := by
  intro k
  induction k with
  | zero => intro q e A R c d cs Ac cc w h; exact absurd h (Nat.not_lt_zero _)
  | succ k ih =>
    intro q e A R c d cs Ac cc w hk hk1 hsh hA hC hcl
    obtain ⟨q, rfl⟩ : ∃ q', q = q' + 1 := by
      cases q with
      | zero => rw [shapedE_zero] at hsh; cases hsh
      | succ q => exact ⟨q, rfl⟩
    rw [shapedE_succ, Bool.and_eq_true] at hsh
    have hnc := (node_cases hsh.1).2
    have HA := Lib.hid (And.intro hA (And.intro hC hsh.2))
    have hnE := nodesE_args e
    have hln := nodesL_len e.args
    have IH := Lib.hid ih
    clear ih hA hC hsh
    unfold E.val
    by_cases ho1 : e.op = 1
    · obtain ⟨n, hn⟩ : ∃ n : Nat, e.n = n := ⟨e.n.toNat, by omega⟩
      have HV : Hid (kindC cs e = _) := Lib.hid (kindC_col ho1 hn)
      have HB1 : Hid (KReads ((w.alloc (.cells #[.int .i64 1, .int .i64 (n : Nat), .int .i64 e.m, .int .i64 e.kind, .int .i64 e.lit.k, .int .i64 e.lit.n, .string e.lit.s, .slice A e.args.length c, .slice R e.rels.length d] 29)).alloc (.cells #[.int .i64 0, .bool false] 50)) ((w.alloc (.cells #[.int .i64 1, .int .i64 (n : Nat), .int .i64 e.m, .int .i64 e.kind, .int .i64 e.lit.k, .int .i64 e.lit.n, .string e.lit.s, .slice A e.args.length c, .slice R e.rels.length d] 29)).alloc (.cells #[.int .i64 0, .bool false] 50)).heap.size Ac cs) := Lib.hid (HA.out.2.1.below (al (al (Below.refl _ _) _) _) (by simp <;> omega))
      rw [ho1, hn]
      clear ho1 hn hnc hnE hln
      by_cases hlt : n < cs.length
      · have HR : Hid (kindC cs e = (cs[n], true)) := Lib.hid (by rw [HV.out, List.getElem?_eq_getElem hlt])
        obtain ⟨b, o, rfl, hblk, c0, c1⟩ := HB1.out.at_ hlt
        have hge : ¬ ((cs.length : Int) ≤ (n : Int)) := by omega
        have hge2 : ¬ (cs.length ≤ n) := by omega
        clear HV HB1
        generalize cs[n] = kc at *
        go_enter Tryz.func22, Tryz.ntmps22
        go_wp2_with fail
        exact bodyPost_ret (v := .tuple #[.agg #[.int .i64 kc.1, .bool kc.2], .bool true]) (by simp [results, Tryz.results22, go_sem]) rfl ⟨by rw [HR.out], al (al (Below.refl _ _) _) _⟩
      · have HR : Hid (kindC cs e = ((0, false), false)) := Lib.hid (by rw [HV.out, List.getElem?_eq_none (by omega)])
        have hge : ((cs.length : Int) ≤ (n : Int)) := by omega
        have hge2 : (cs.length ≤ n) := by omega
        clear HV HB1
        go_enter Tryz.func22, Tryz.ntmps22
        go_wp2_with fail
        exact bodyPost_ret (v := .tuple #[.agg #[.int .i64 0, .bool false], .bool false]) (by simp [results, Tryz.results22, go_sem]) rfl ⟨by rw [HR.out], al (al (Below.refl _ _) _) _⟩
    by_cases ho2 : e.op = 2
    · have HR : Hid (kindC cs e = ((0, false), false)) := Lib.hid (kindC_out ho2)
      rw [ho2]
      clear ho1 ho2 hnc hnE hln
      go_enter Tryz.func22, Tryz.ntmps22
      go_wp2_with fail
      exact bodyPost_ret (v := .tuple #[.agg #[.int .i64 0, .bool false], .bool false]) (by simp [results, Tryz.results22, go_sem]) rfl ⟨by rw [HR.out], al (al (Below.refl _ _) _) _⟩
    have HM : Hid (3 ≤ e.op ∧ e.op ≤ 25 ∧ (4 ≤ e.op → 0 < e.args.length) ∧ (e.op = 24 → e.args.length % 2 = 1) ∧ e.args.length ≤ 16) := Lib.hid (by
      rcases hnc with h | h | h | ⟨h4, h25, hm⟩
      · exact absurd h.1 ho1
      · exact absurd h.1 ho2
      · have hz := h.2.2.2.2
        rw [hz]
        exact ⟨by omega, by omega, fun _ => by omega, fun _ => by omega, by simp⟩
      · have := many_le hm
        exact ⟨by omega, h25, fun _ => by omega, fun h => by rw [h] at hm; exact many_odd hm, by omega⟩)
    have HNn := Lib.hid (kindC_none (cs := cs) ho1 ho2)
    have HCm : Hid (∀ (A1 : Option Addr) (w1 : World) (A2 : Option Addr) (c2 : Nat) (ks : List Co), kindL cs e.args = some ks → KReads w1 w1.heap.size A2 ks →
        Calls Tryz.prog 53 #[.agg #[.int .i64 e.op, .int .i64 e.n, .int .i64 e.m, .int .i64 e.kind, .int .i64 e.lit.k, .int .i64 e.lit.n, .string e.lit.s, .slice A1 e.args.length c, .slice R e.rels.length d], .slice A2 ks.length c2] w1 fun x w' => x = .returned (.tuple #[.agg #[.int .i64 (kindC cs e).1.1, .bool (kindC cs e).1.2], .bool (kindC cs e).2]) ∧ Below w1.heap.size w1 w') := Lib.hid fun A1 w1 A2 c2 ks hks hk2 => by
      have hl := kindL_len cs _ _ hks
      have hm := HM.out
      rw [kindC_some ho1 ho2 hks]
      exact CombinedR_any e.op e.n e.m e.kind e.lit.k e.lit.n e.lit.s A1 R _ _ c d ks A2 c2 w1 hk2 (by omega) hm.1 hm.2.1 (fun h => by rw [hl]; exact hm.2.2.1 h) (fun h => by rw [hl]; exact hm.2.2.2.1 h)
    have e1 : (e.op == 1) = false := beq_eq_false_iff_ne.2 ho1
    have e2 : (e.op == 2) = false := beq_eq_false_iff_ne.2 ho2
    obtain ⟨i0, hi, hz0, hz1, hz2⟩ := info_parts infoCo
    have H0 : Hid (Below w.heap.size w ((w.alloc (.cells #[.int .i64 e.op, .int .i64 e.n, .int .i64 e.m, .int .i64 e.kind, .int .i64 e.lit.k, .int .i64 e.lit.n, .string e.lit.s, .slice A e.args.length c, .slice R e.rels.length d] 29)).alloc (.cells #[.int .i64 0, .bool false] 50)) ∧ Blk ((w.alloc (.cells #[.int .i64 e.op, .int .i64 e.n, .int .i64 e.m, .int .i64 e.kind, .int .i64 e.lit.k, .int .i64 e.lit.n, .string e.lit.s, .slice A e.args.length c, .slice R e.rels.length d] 29)).alloc (.cells #[.int .i64 0, .bool false] 50)) w.heap.size 29 #[.int .i64 e.op, .int .i64 e.n, .int .i64 e.m, .int .i64 e.kind, .int .i64 e.lit.k, .int .i64 e.lit.n, .string e.lit.s, .slice A e.args.length c, .slice R e.rels.length d] ∧ Blk ((w.alloc (.cells #[.int .i64 e.op, .int .i64 e.n, .int .i64 e.m, .int .i64 e.kind, .int .i64 e.lit.k, .int .i64 e.lit.n, .string e.lit.s, .slice A e.args.length c, .slice R e.rels.length d] 29)).alloc (.cells #[.int .i64 0, .bool false] 50)) (w.heap.size + 1) 50 #[.int .i64 0, .bool false] ∧ ((w.alloc (.cells #[.int .i64 e.op, .int .i64 e.n, .int .i64 e.m, .int .i64 e.kind, .int .i64 e.lit.k, .int .i64 e.lit.n, .string e.lit.s, .slice A e.args.length c, .slice R e.rels.length d] 29)).alloc (.cells #[.int .i64 0, .bool false] 50)).ownsRow (w.heap.size + 1 + 1) 50 2 (.slice none 0 0) ([] : List Co).length (ccells ([] : List Co)) ∧ w.heap.size + 1 + 1 ≤ ((w.alloc (.cells #[.int .i64 e.op, .int .i64 e.n, .int .i64 e.m, .int .i64 e.kind, .int .i64 e.lit.k, .int .i64 e.lit.n, .string e.lit.s, .slice A e.args.length c, .slice R e.rels.length d] 29)).alloc (.cells #[.int .i64 0, .bool false] 50)).heap.size) := Lib.hid ⟨al (al (Below.refl _ _) _) _, (Blk.new w _ _).alloc _, Blk.new' (by simp), ⟨rfl, .inl ⟨rfl, rfl⟩⟩, by simp⟩
    have hl16 : e.args.length ≤ 16 := HM.out.2.2.2.2
    clear hnc ho1 ho2
    go_enter Tryz.func22, Tryz.ntmps22
    go_wp2_with fail
    go_loopw [6, 7] (fun v iv wr => ∃ (j : Nat) (ks : List Co), j ≤ e.args.length ∧ iv = .int .i64 j ∧ Hid (Below w.heap.size w wr ∧ Blk wr w.heap.size 29 #[.int .i64 e.op, .int .i64 e.n, .int .i64 e.m, .int .i64 e.kind, .int .i64 e.lit.k, .int .i64 e.lit.n, .string e.lit.s, .slice A e.args.length c, .slice R e.rels.length d] ∧ Blk wr (w.heap.size + 1) 50 #[.int .i64 0, .bool false] ∧ wr.ownsRow (w.heap.size + 1 + 1) 50 2 v ks.length (ccells ks) ∧ w.heap.size + 1 + 1 ≤ wr.heap.size) ∧ Hid (ks.length = j ∧ kindL cs (e.args.take j) = some ks)) (fun _ iv _ => e.args.length - (intOf iv).toNat)
    case atStart => exact ⟨0, [], Nat.zero_le _, rfl, H0, Lib.hid ⟨rfl, by simp [kindL]⟩⟩
    case round =>
      clear H0
      obtain ⟨j, ks, hj, rfl, HW, HK⟩ := hrel
      have a0 := HW.out.2.1
      have y0 := a0.cell 0
      have y1 := a0.cell 1
      have y2 := a0.cell 2
      have y3 := a0.cell 3
      have y4 := a0.cell 4
      have y5 := a0.cell 5
      have y6 := a0.cell 6
      have y7 := a0.cell 7
      have y8 := a0.cell 8
      simp only [List.getElem?_toArray, List.getElem?_cons_succ, List.getElem?_cons_zero] at y0 y1 y2 y3 y4 y5 y6 y7 y8
      clear a0
      by_cases hlt : j < e.args.length
      · have hlti : (j : Int) < (e.args.length : Int) := by omega
        have hj0 : (0 : Int) ≤ (j : Int) := by omega
        obtain ⟨b, o, rfl, hb, he⟩ := (HA.out.1.below HW.out.1 HW.out.1.size).at_ hlt
        obtain ⟨z0, z1, z2, z3, z4, z5, z6, ⟨A', c', z7, z8⟩, R', d', z9, z10⟩ := EOk.mk_.1 he
        have x0 : wr.cell? ⟨b, o + j * 9, none⟩ = some (.int .i64 e.args[j].op) := z0
        have x1 : wr.cell? ⟨b, o + j * 9 + 1, none⟩ = some (.int .i64 e.args[j].n) := z1
        have x2 : wr.cell? ⟨b, o + j * 9 + 2, none⟩ = some (.int .i64 e.args[j].m) := z2
        have x3 : wr.cell? ⟨b, o + j * 9 + 3, none⟩ = some (.int .i64 e.args[j].kind) := z3
        have x4 : wr.cell? ⟨b, o + j * 9 + 4, none⟩ = some (.int .i64 e.args[j].lit.k) := z4
        have x5 : wr.cell? ⟨b, o + j * 9 + 5, none⟩ = some (.int .i64 e.args[j].lit.n) := z5
        have x6 : wr.cell? ⟨b, o + j * 9 + 6, none⟩ = some (.string e.args[j].lit.s) := z6
        have x7 : wr.cell? ⟨b, o + j * 9 + 7, none⟩ = some ((.slice A' e.args[j].args.length c')) := z7
        have x8 : wr.cell? ⟨b, o + j * 9 + 8, none⟩ = some ((.slice R' e.args[j].rels.length d')) := z9
        have hmm := nodesL_mem (List.getElem_mem hlt)
        have HQ : Hid (Calls Tryz.prog 22 #[e.args[j].val A' c' R' d', .slice Ac cs.length cc] wr fun x w' => x = .returned (.tuple #[.agg #[.int .i64 (kindC cs e.args[j]).1.1, .bool (kindC cs e.args[j]).1.2], .bool (kindC cs e.args[j]).2]) ∧ Below wr.heap.size wr w') := Lib.hid
          (IH.out q e.args[j] A' R' c' d' cs Ac cc wr (by omega) (by omega) (shapedL_mem HA.out.2.2 _ (List.getElem_mem hlt)) z8 (HA.out.2.1.below HW.out.1 HW.out.1.size) hcl)
        have HTk := Lib.hid (kindL_take cs e.args j hlt ks)
        have HSp := Lib.hid (kindL_stop cs e.args j hlt)
        have HKC := Lib.hid (kindC_E cs e.args[j])
        clear z0 z1 z2 z3 z4 z5 z6 z7 z8 z9 z10 he hmm
        generalize kindC cs e.args[j] = kj at *
        generalize kindE cs e.args[j] = kk at *
        obtain ⟨⟨kc, kn⟩, kb⟩ := kj
        generalize e.args[j] = ej at *
        unfold E.val at HQ
        cases kb
        · have HR : Hid (kindC cs e = ((0, false), false)) := Lib.hid (HNn.out (HSp.out HKC.out))
          clear HTk HSp HKC
          go_wp2_with fail
          refine HQ.out.mono ?_
          rintro x w3 ⟨rfl, hb3⟩
          have H3 : Hid (Below w.heap.size w w3 ∧ Blk w3 (w.heap.size + 1) 50 #[.int .i64 0, .bool false]) := Lib.hid ⟨thn HW.out.1 hb3, HW.out.2.2.1.below hb3 HW.out.2.2.1.lt⟩
          clear hb3 x0 x1 x2 x3 x4 x5 x6 x7 x8 y0 y1 y2 y3 y4 y5 y6 y7 y8
          have hrb := H3.out.2.alloc (.cells #[.int .i64 kc, .bool kn] 50)
          have f0 := hrb.frozen 0
          have f1 := hrb.frozen 1
          have d0 := hrb.cell 0
          have d1 := hrb.cell 1
          have hrl := hrb.lt
          simp only [List.getElem?_toArray, List.getElem?_cons_succ, List.getElem?_cons_zero] at d0 d1
          go_wp2_with fail
          have HB := (hrb.set_ 0 (.int .i64 0)).set_ 1 (.bool false)
          have k0 := HB.cell 0
          have k1 := HB.cell 1
          simp at k0 k1
          exact bodyPost_ret (v := .tuple #[.agg #[.int .i64 0, .bool false], .bool false]) (by simp [results, Tryz.results22, go_sem, k0, k1]) rfl ⟨by rw [HR.out], ((al H3.out.1 (.cells #[.int .i64 kc, .bool kn] 50)).setCell (p := ⟨w.heap.size + 1, 0, none⟩) (by simp <;> omega) _).setCell (p := ⟨w.heap.size + 1, 1, none⟩) (by simp <;> omega) _⟩
        · have HN : Hid (kindL cs (e.args.take (j + 1)) = some (ks ++ [(kc, kn)])) := Lib.hid (HTk.out (kc, kn) HK.out.2 HKC.out)
          have hks := HK.out.1
          clear HTk HSp HKC
          have hb1 : ks.length + 1 ≤ maxLen := by unfold maxLen; omega
          have hb2 : (ks.length + 1) * 16 ≤ 140737488355328 := by omega
          go_wp2_with fail
          refine HQ.out.mono ?_
          rintro x w3 ⟨rfl, hb3⟩
          have H3 : Hid (Below w.heap.size w w3 ∧ Blk w3 w.heap.size 29 #[.int .i64 e.op, .int .i64 e.n, .int .i64 e.m, .int .i64 e.kind, .int .i64 e.lit.k, .int .i64 e.lit.n, .string e.lit.s, .slice (some ⟨b, o, none⟩) e.args.length c, .slice R e.rels.length d] ∧ Blk w3 (w.heap.size + 1) 50 #[.int .i64 0, .bool false] ∧ w3.ownsRow (w.heap.size + 1 + 1) 50 2 u6 ks.length (ccells ks) ∧ w.heap.size + 1 + 1 ≤ w3.heap.size) := Lib.hid ⟨thn HW.out.1 hb3, HW.out.2.1.below hb3 HW.out.2.1.lt, HW.out.2.2.1.below hb3 HW.out.2.2.1.lt, own_below HW.out.2.2.2.1 hb3, Nat.le_trans HW.out.2.2.2.2 hb3.size⟩
          clear hb3 x0 x1 x2 x3 x4 x5 x6 x7 x8 y0 y1 y2 y3 y4 y5 y6 y7 y8
          have hRd : ∀ ob, Reads ((w3.alloc ob).alloc (.cells #[.int .i64 kc, .bool kn] 50)) (w3.heap.size + 1 + 1) 2 (some ⟨w3.heap.size + 1, 0, none⟩) 1 (ccells [(kc, kn)]) := fun ob => Reads.col (Blk.new' (g := w3.heap.size + 1) (by simp)) (Nat.lt_succ_self _)
          have hsz3 := H3.out.2.2.2.2
          go_wp2_with (at_builtin; refine wpList_append_any _ rfl (.tmp 48) (.tmp 50) 47 rfl (w.heap.size + 1 + 1) 50 i0 (.agg #[.int .i64 0, .bool false]) 2 16 Tryz.underlying47 hi hz0 hz1 hz2 rfl (by decide) _ _ _ rfl ((H3.out.2.2.2.1.alloc _).alloc _) (w3.heap.size + 1 + 1) _ 1 1 (ccells [(kc, kn)]) rfl (hRd _) (ccells_one _) hb1 hb2 (by simp; omega) ?_)
          intro v' w4 hown4 hg4 _
          have HF : Hid (Below w.heap.size w w4 ∧ Blk w4 w.heap.size 29 #[.int .i64 e.op, .int .i64 e.n, .int .i64 e.m, .int .i64 e.kind, .int .i64 e.lit.k, .int .i64 e.lit.n, .string e.lit.s, .slice (some ⟨b, o, none⟩) e.args.length c, .slice R e.rels.length d] ∧ Blk w4 (w.heap.size + 1) 50 #[.int .i64 0, .bool false] ∧ w4.ownsRow (w.heap.size + 1 + 1) 50 2 v' (ks ++ [(kc, kn)]).length (ccells (ks ++ [(kc, kn)])) ∧ w.heap.size + 1 + 1 ≤ w4.heap.size) := Lib.hid (by
            have b4 : Below (w.heap.size + 1 + 1) w3 w4 := ((al (al (Below.refl _ _) _) _).mono hsz3 |>.grown hg4 (by simp <;> omega) (own_base H3.out.2.2.2.1))
            exact ⟨H3.out.1.trans (b4.mono (by omega)), H3.out.2.1.below b4 (by omega), H3.out.2.2.1.below b4 (by omega), by rw [ccells_append, List.length_append, hks]; exact hown4, Nat.le_trans hsz3 b4.size⟩)
          clear hown4 hg4 hRd hb1 hb2 hsz3
          go_wp2_with fail
          first | exact ⟨⟨j + 1, ks ++ [(kc, kn)], by omega, by go_num, HF, Lib.hid ⟨by simp [hks], HN.out⟩⟩, by simp [intOf]; omega⟩ | (go_roundw; case rel => exact ⟨j + 1, ks ++ [(kc, kn)], by omega, by go_num, HF, Lib.hid ⟨by simp [hks], HN.out⟩⟩; case measure => simp [intOf]; omega)
      · have hlf : decide ((j : Int) < (e.args.length : Int)) = false := decide_eq_false (by omega)
        have hkl : kindL cs e.args = some ks := by have := HK.out.2; rwa [List.take_of_length_le (by omega)] at this
        obtain ⟨A2, c2, rfl, hk2⟩ := KReads.own HW.out.2.2.2.1
        have HQ := HCm.out A wr A2 c2 ks hkl hk2
        have HR : Hid (kindC cs e = (((kindC cs e).1.1, (kindC cs e).1.2), (kindC cs e).2)) := Lib.hid rfl
        clear hk2 hkl
        generalize hck : (kindC cs e).1.1 = ck at *
        generalize hcn : (kindC cs e).1.2 = cn at *
        generalize hcb : (kindC cs e).2 = cb at *
        go_wp2_with fail
        refine HQ.mono ?_
        rintro x w3 ⟨rfl, hb3⟩
        have H3 : Hid (Below w.heap.size w w3 ∧ Blk w3 (w.heap.size + 1) 50 #[.int .i64 0, .bool false]) := Lib.hid ⟨thn HW.out.1 hb3, HW.out.2.2.1.below hb3 HW.out.2.2.1.lt⟩
        clear hb3 y0 y1 y2 y3 y4 y5 y6 y7 y8 HQ
        have hrb := H3.out.2
        have f0 := hrb.frozen 0
        have f1 := hrb.frozen 1
        have d0 := hrb.cell 0
        have d1 := hrb.cell 1
        have hrl := hrb.lt
        simp only [List.getElem?_toArray, List.getElem?_cons_succ, List.getElem?_cons_zero] at d0 d1
        go_wp2_with fail
        have HB := (hrb.set_ 0 (.int .i64 ck)).set_ 1 (.bool cn)
        have k0 := HB.cell 0
        have k1 := HB.cell 1
        simp at k0 k1
        exact bodyPost_ret (v := .tuple #[.agg #[.int .i64 ck, .bool cn], .bool cb]) (by simp [results, Tryz.results22, go_sem, k0, k1]) rfl ⟨by rw [hck, hcn, hcb], (H3.out.1.setCell (p := ⟨w.heap.size + 1, 0, none⟩) (by simp <;> omega) _).setCell (p := ⟨w.heap.size + 1, 1, none⟩) (by simp <;> omega) _⟩
end Go.Proofs.YtcbcncaoabablaaGreatDoor
