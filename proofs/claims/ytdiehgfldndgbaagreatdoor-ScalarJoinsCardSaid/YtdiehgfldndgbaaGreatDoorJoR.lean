/-
  CONTRACTS of scalar.Joined, and of the reference's Joined.
-/
import Derived.Test.YtdiehgfldndgbaaGreatDoorGA26
import Derived.Test.YtdiehgfldndgbaaGreatDoorGA25
import Derived.Test.YtdiehgfldndgbaaGreatDoorGA13
namespace Go.Proofs.YtdiehgfldndgbaaGreatDoor
open Go.RowKit Go.Deep

def jnS (l : List E) : E := if l.all formE = true then frE (jnE l) else zE
def jnFl (l : List E) : Int := if l.all formE = true then frF (jnE l) else 30
set_option maxHeartbeats 4000000 in
set_option maxRecDepth 100000 in
theorem JoinedP_any (l : List E) (A : Option Addr) (c : Nat) (w : World) (hG : GS w) (h60 : l.length ≤ 60) (hc : l.length ≤ c) (hcm : c ≤ maxLen) (hI : ∀ x ∈ l, EIn x) (hN : nodesL l ≤ 420) (hA : LOk w (Lo w.heap.size) A l) :
    Calls Tryz.prog 14 #[.slice A l.length c] w fun x w' => ∃ h : HE, h.e = jnS l ∧ x = .returned (.tuple #[h.val, .int .i64 (jnFl l)]) ∧ Below w.heap.size w w' ∧ h.ok w' (Lo w'.heap.size) := by
  have hmn : ∀ x ∈ l, nodesE x < 1000000 ∧ fitX x := fun x hx => by
    have := nodesL_mem hx
    exact ⟨by omega, fitX_of x (hI x hx) (by omega)⟩
  have hjn := jn_nodes (l.length + 1) l (Nat.lt_succ_self _)
  have HB : Hid (Below w.heap.size w (w.alloc (.cells #[.int .i64 0, .int .i64 0, .int .i64 0, .int .i64 0, .int .i64 0, .int .i64 0, .string ⟨#[]⟩, .slice none 0 0, .slice none 0 0] 30)) ∧ Blk (w.alloc (.cells #[.int .i64 0, .int .i64 0, .int .i64 0, .int .i64 0, .int .i64 0, .int .i64 0, .string ⟨#[]⟩, .slice none 0 0, .slice none 0 0] 30)) w.heap.size 30 #[.int .i64 0, .int .i64 0, .int .i64 0, .int .i64 0, .int .i64 0, .int .i64 0, .string ⟨#[]⟩, .slice none 0 0, .slice none 0 0]) := Lib.hid ⟨al (Below.refl _ _) _, Blk.new _ _ _⟩
  have HK := Lib.hid (checkE_any A c l (w.alloc (.cells #[.int .i64 0, .int .i64 0, .int .i64 0, .int .i64 0, .int .i64 0, .int .i64 0, .string ⟨#[]⟩, .slice none 0 0, .slice none 0 0] 30)) (by omega) hmn (hG.thn HB.out.1) (hA.below HB.out.1 HB.out.1.size))
  rcases cksE_cases l with ⟨hq, hcs⟩ | ⟨hq, hcs⟩
  · have HF : Hid (jnS l = frE (jnE l) ∧ jnFl l = frF (jnE l)) := Lib.hid ⟨if_pos hq, if_pos hq⟩
    have HJ : Hid (∀ w1, Below w.heap.size w w1 → Calls Tryz.prog 48 #[.slice A l.length c] w1 fun x w' => ∃ h : HE, h.e = jnE l ∧ x = .returned h.val ∧ Below w1.heap.size w1 w' ∧ h.ok w' (In2 w.heap.size w1.heap.size w'.heap.size)) := Lib.hid fun w1 hb =>
      joinedE_any w.heap.size (l.length + 1) l A c w1 (Nat.lt_succ_self _) (by omega) hc hcm hb.size (hA.kept (fun b h => hb.block b h) fun _ h => h)
    have HFr : Hid (∀ (w1 : World) (h : HE), Below w.heap.size w w1 → h.e = jnE l → h.ok w1 (Lo w1.heap.size) → Calls Tryz.prog 47 #[h.val] w1 fun x w' => ∃ h2 : HE, h2.e = frE (jnE l) ∧ x = .returned (.tuple #[h2.val, .int .i64 (frF (jnE l))]) ∧ Below w1.heap.size w1 w' ∧ h2.ok w' (NwB w1.heap.size w'.heap.size)) := Lib.hid fun w1 h hb he hok => by
      have hE : EHas w1 h.e h.A h.R := EHas.of (c := h.c) (d := h.d) hok (fun b h => h) (by rw [he]; exact jn_inn _ l (Nat.lt_succ_self _) (LIn.of hI)) (by rw [he]; omega)
      have k := fresh_any h.e h.A h.R h.c h.d w1 (hG.thn hb) hE
      rw [he] at k
      rw [HE.val, he]
      exact k
    have hl400 : decide ((400 : Int) < (l.length : Int)) = false := decide_eq_false (by omega)
    have hl400n : decide (400 < l.length) = false := decide_eq_false (by omega)
    rw [hcs] at HK
    rw [HF.out.1, HF.out.2]
    clear hG hI hN hA hq hcs hmn hjn
    generalize frF (jnE l) = fr at *
    go_enter Tryz.func14, Tryz.ntmps14
    go_wp2_with fail
    refine HK.out.mono ?_
    rintro x w2 ⟨rfl, hb2⟩
    have H2 : Hid (Below w.heap.size w w2 ∧ Blk w2 w.heap.size 30 #[.int .i64 0, .int .i64 0, .int .i64 0, .int .i64 0, .int .i64 0, .int .i64 0, .string ⟨#[]⟩, .slice none 0 0, .slice none 0 0]) := Lib.hid ⟨thn HB.out.1 hb2, HB.out.2.below hb2 HB.out.2.lt⟩
    clear hb2 HK HB
    go_wp2_with fail
    refine (HJ.out w2 H2.out.1).mono ?_
    rintro x w3 ⟨h, hhe, rfl, hb3, hok⟩
    have H3 : Hid (Below w.heap.size w w3 ∧ Blk w3 w.heap.size 30 #[.int .i64 0, .int .i64 0, .int .i64 0, .int .i64 0, .int .i64 0, .int .i64 0, .string ⟨#[]⟩, .slice none 0 0, .slice none 0 0]) := Lib.hid ⟨thn H2.out.1 hb3, H2.out.2.below hb3 H2.out.2.lt⟩
    have HFc := Lib.hid (HFr.out w3 h H3.out.1 hhe (hok.kept (fun _ _ => rfl) fun b hb => hb.2))
    clear hb3 hok hhe HFr HJ H2
    unfold HE.val E.val at HFc ⊢
    go_wp2_with fail
    refine HFc.out.mono ?_
    rintro x w4 ⟨h2, hh2, rfl, hb4, hok2⟩
    have H4 : Hid (Below w.heap.size w w4 ∧ Blk w4 w.heap.size 30 #[.int .i64 0, .int .i64 0, .int .i64 0, .int .i64 0, .int .i64 0, .int .i64 0, .string ⟨#[]⟩, .slice none 0 0, .slice none 0 0] ∧ h2.e = frE (jnE l) ∧ h2.ok w4 (NwB w3.heap.size w4.heap.size) ∧ w.heap.size < w3.heap.size) := Lib.hid ⟨thn H3.out.1 hb4, H3.out.2.below hb4 H3.out.2.lt, hh2, hok2, H3.out.2.lt⟩
    clear hb4 hh2 hok2 HFc H3
    have hq := H4.out.2.1
    have hql := hq.lt
    have f0 := hq.frozen 0
    have f1 := hq.frozen 1
    have f2 := hq.frozen 2
    have f3 := hq.frozen 3
    have f4 := hq.frozen 4
    have f5 := hq.frozen 5
    have f6 := hq.frozen 6
    have f7 := hq.frozen 7
    have f8 := hq.frozen 8
    have d0 := hq.cell 0
    have d1 := hq.cell 1
    have d2 := hq.cell 2
    have d3 := hq.cell 3
    have d4 := hq.cell 4
    have d5 := hq.cell 5
    have d6 := hq.cell 6
    have d7 := hq.cell 7
    have d8 := hq.cell 8
    simp only [List.getElem?_toArray, List.getElem?_cons_succ, List.getElem?_cons_zero] at d0 d1 d2 d3 d4 d5 d6 d7 d8
    clear hq
    have HB9 := Lib.hid (H4.out.2.1.set9_ (.int .i64 h2.e.op) (.int .i64 h2.e.n) (.int .i64 h2.e.m) (.int .i64 h2.e.kind) (.int .i64 h2.e.lit.k) (.int .i64 h2.e.lit.n) (.string h2.e.lit.s) (.slice h2.A h2.e.args.length h2.c) (.slice h2.R h2.e.rels.length h2.d))
    go_wp2_with fail
    have k0 := HB9.out.cell 0
    have k1 := HB9.out.cell 1
    have k2 := HB9.out.cell 2
    have k3 := HB9.out.cell 3
    have k4 := HB9.out.cell 4
    have k5 := HB9.out.cell 5
    have k6 := HB9.out.cell 6
    have k7 := HB9.out.cell 7
    have k8 := HB9.out.cell 8
    simp at k0 k1 k2 k3 k4 k5 k6 k7 k8
    exact bodyPost_ret (v := .tuple #[.agg #[.int .i64 h2.e.op, .int .i64 h2.e.n, .int .i64 h2.e.m, .int .i64 h2.e.kind, .int .i64 h2.e.lit.k, .int .i64 h2.e.lit.n, .string h2.e.lit.s, .slice h2.A h2.e.args.length h2.c, .slice h2.R h2.e.rels.length h2.d], .int .i64 fr]) (by simp [results, Tryz.results14, go_sem, k0, k1, k2, k3, k4, k5, k6, k7, k8]) rfl ⟨h2, H4.out.2.2.1, rfl, st9 H4.out.1 (Nat.le_refl _) _ _ _ _ _ _ _ _ _, H4.out.2.2.2.1.kept (fun b hb => set9_far _ _ _ _ _ _ _ _ _ _ _ b (by have := hb.1; have := H4.out.2.2.2.2; omega)) fun b hb => by rw [set9_size]; exact hb.2⟩
  · have HF : Hid (jnS l = zE ∧ jnFl l = 30) := Lib.hid ⟨if_neg (by rw [hq]; decide), if_neg (by rw [hq]; decide)⟩
    rw [hcs] at HK
    rw [HF.out.1, HF.out.2]
    clear hG hI hN hA hq hcs hmn hjn
    go_enter Tryz.func14, Tryz.ntmps14
    go_wp2_with fail
    refine HK.out.mono ?_
    rintro x w2 ⟨rfl, hb2⟩
    have H2 : Hid (Below w.heap.size w w2 ∧ Blk w2 w.heap.size 30 #[.int .i64 0, .int .i64 0, .int .i64 0, .int .i64 0, .int .i64 0, .int .i64 0, .string ⟨#[]⟩, .slice none 0 0, .slice none 0 0]) := Lib.hid ⟨thn HB.out.1 hb2, HB.out.2.below hb2 HB.out.2.lt⟩
    clear hb2 HK HB
    have hq := H2.out.2
    have hql := hq.lt
    have f0 := hq.frozen 0
    have f1 := hq.frozen 1
    have f2 := hq.frozen 2
    have f3 := hq.frozen 3
    have f4 := hq.frozen 4
    have f5 := hq.frozen 5
    have f6 := hq.frozen 6
    have f7 := hq.frozen 7
    have f8 := hq.frozen 8
    have d0 := hq.cell 0
    have d1 := hq.cell 1
    have d2 := hq.cell 2
    have d3 := hq.cell 3
    have d4 := hq.cell 4
    have d5 := hq.cell 5
    have d6 := hq.cell 6
    have d7 := hq.cell 7
    have d8 := hq.cell 8
    simp only [List.getElem?_toArray, List.getElem?_cons_succ, List.getElem?_cons_zero] at d0 d1 d2 d3 d4 d5 d6 d7 d8
    clear hq
    have HB9 := Lib.hid (H2.out.2.set9_ (.int .i64 0) (.int .i64 0) (.int .i64 0) (.int .i64 0) (.int .i64 0) (.int .i64 0) (.string ⟨#[]⟩) (.slice none 0 0) (.slice none 0 0))
    go_wp2_with fail
    have k0 := HB9.out.cell 0
    have k1 := HB9.out.cell 1
    have k2 := HB9.out.cell 2
    have k3 := HB9.out.cell 3
    have k4 := HB9.out.cell 4
    have k5 := HB9.out.cell 5
    have k6 := HB9.out.cell 6
    have k7 := HB9.out.cell 7
    have k8 := HB9.out.cell 8
    simp at k0 k1 k2 k3 k4 k5 k6 k7 k8
    exact bodyPost_ret (v := .tuple #[.agg #[.int .i64 0, .int .i64 0, .int .i64 0, .int .i64 0, .int .i64 0, .int .i64 0, .string ⟨#[]⟩, .slice none 0 0, .slice none 0 0], .int .i64 30]) (by simp [results, Tryz.results14, go_sem, k0, k1, k2, k3, k4, k5, k6, k7, k8]) rfl ⟨zH, rfl, rfl, st9 H2.out.1 (Nat.le_refl _) _ _ _ _ _ _ _ _ _, zH_ok _ _⟩
theorem LOk.heldT {w : World} {P : Nat → Prop} {A : Option Addr} {l : List E} (n : Nat) (h : LOk w P A l) : ∃ hs : List HE, hs.map HE.e = l.take n ∧ HReads w P A hs ∧ ∀ h ∈ hs, h.ok w P := (LOk.take n h).held
set_option maxHeartbeats 4000000 in
set_option maxRecDepth 100000 in
theorem RJoined_any (B : Nat) : ∀ (k : Nat) (l : List E) (A : Option Addr) (c : Nat) (w : World), l.length < k → k ≤ 10000 → l.length ≤ c → c ≤ maxLen → B ≤ w.heap.size → LOk w (Lo B) A l →
    Calls Tryz.prog 18 #[.slice A l.length c] w fun x w' => ∃ h : HE, h.e = jnE l ∧ x = .returned h.val ∧ Below w.heap.size w w' ∧ h.ok w' (In2 B w.heap.size w'.heap.size) := by
  intro k
  induction k with
  | zero => intro l A c w h; exact absurd h (Nat.not_lt_zero _)
  | succ k ih =>
    intro l A c w hk hk1 hc hcm hBw hA0
    have hA : LOk w (Lo w.heap.size) A l := hA0.kept (fun _ _ => rfl) fun b h => Nat.lt_of_lt_of_le h hBw
    have HA := Lib.hid hA0
    have HB : Hid (Below w.heap.size w (w.alloc (.cells #[.int .i64 0, .int .i64 0, .int .i64 0, .int .i64 0, .int .i64 0, .int .i64 0, .string ⟨#[]⟩, .slice none 0 0, .slice none 0 0] 30)) ∧ Blk (w.alloc (.cells #[.int .i64 0, .int .i64 0, .int .i64 0, .int .i64 0, .int .i64 0, .int .i64 0, .string ⟨#[]⟩, .slice none 0 0, .slice none 0 0] 30)) w.heap.size 30 #[.int .i64 0, .int .i64 0, .int .i64 0, .int .i64 0, .int .i64 0, .int .i64 0, .string ⟨#[]⟩, .slice none 0 0, .slice none 0 0]) := Lib.hid ⟨al (Below.refl _ _) _, Blk.new _ _ _⟩
    rcases jnE_cases l with rfl | ⟨e, rfl⟩ | ⟨h2, h16⟩ | h16
    · rw [jnE_nil]
      have HT := Lib.hid (rBool_any true (w.alloc (.cells #[.int .i64 0, .int .i64 0, .int .i64 0, .int .i64 0, .int .i64 0, .int .i64 0, .string ⟨#[]⟩, .slice none 0 0, .slice none 0 0] 30)))
      clear ih hA hA0
      go_enter Tryz.func18, Tryz.ntmps18
      go_wp2_with fail
      refine HT.out.mono ?_
      rintro x w2 ⟨rfl, hb2⟩
      have H2 := Lib.hid hb2
      have HL := Lib.hid (RLit_any ⟨2, 1, ⟨#[]⟩⟩ w2)
      clear hb2 HT
      go_wp2_with fail
      refine HL.out.mono ?_
      rintro x w3 ⟨rfl, hb3⟩
      have H3 : Hid (Below w.heap.size w w3 ∧ Blk w3 w.heap.size 30 #[.int .i64 0, .int .i64 0, .int .i64 0, .int .i64 0, .int .i64 0, .int .i64 0, .string ⟨#[]⟩, .slice none 0 0, .slice none 0 0]) := Lib.hid ⟨thn (thn HB.out.1 H2.out) hb3, (HB.out.2.below H2.out HB.out.2.lt).below hb3 (by have := H2.out.size; have := HB.out.2.lt; omega)⟩
      clear hb3 HL H2 HB
      have hq := H3.out.2
      have hql := hq.lt
      have f0 := hq.frozen 0
      have f1 := hq.frozen 1
      have f2 := hq.frozen 2
      have f3 := hq.frozen 3
      have f4 := hq.frozen 4
      have f5 := hq.frozen 5
      have f6 := hq.frozen 6
      have f7 := hq.frozen 7
      have f8 := hq.frozen 8
      have d0 := hq.cell 0
      have d1 := hq.cell 1
      have d2 := hq.cell 2
      have d3 := hq.cell 3
      have d4 := hq.cell 4
      have d5 := hq.cell 5
      have d6 := hq.cell 6
      have d7 := hq.cell 7
      have d8 := hq.cell 8
      simp only [List.getElem?_toArray, List.getElem?_cons_succ, List.getElem?_cons_zero] at d0 d1 d2 d3 d4 d5 d6 d7 d8
      clear hq
      have HB9 := Lib.hid (H3.out.2.set9_ (.int .i64 3) (.int .i64 0) (.int .i64 0) (.int .i64 2) (.int .i64 2) (.int .i64 1) (.string ⟨#[]⟩) (.slice none 0 0) (.slice none 0 0))
      go_wp2_with fail
      have k0 := HB9.out.cell 0
      have k1 := HB9.out.cell 1
      have k2 := HB9.out.cell 2
      have k3 := HB9.out.cell 3
      have k4 := HB9.out.cell 4
      have k5 := HB9.out.cell 5
      have k6 := HB9.out.cell 6
      have k7 := HB9.out.cell 7
      have k8 := HB9.out.cell 8
      simp at k0 k1 k2 k3 k4 k5 k6 k7 k8
      exact bodyPost_ret (v := .agg #[.int .i64 3, .int .i64 0, .int .i64 0, .int .i64 2, .int .i64 2, .int .i64 1, .string ⟨#[]⟩, .slice none 0 0, .slice none 0 0]) (by simp [results, Tryz.results18, go_sem, k0, k1, k2, k3, k4, k5, k6, k7, k8]) rfl ⟨⟨trueE, none, 0, none, 0⟩, rfl, rfl, st9 H3.out.1 (Nat.le_refl _) _ _ _ _ _ _ _ _ _, LOk.nil_, fun h => absurd h (Nat.lt_irrefl 0)⟩
    · rw [jnE_one]
      obtain ⟨b, o, A', c', R', d', rfl, hZ, -, -⟩ := hA.eat (i := 0) (by simp)
      have hLR : HE.ok w (Lo B) ⟨e, A', c', R', d'⟩ := by
        have hE := HA.out
        rw [LOk] at hE
        obtain ⟨b', o', e1, _, he, _⟩ := hE
        injection e1 with e1
        injection e1 with e1 e2 _
        subst e1 e2
        obtain ⟨_, _, _, _, _, _, _, ⟨A2, c2, z7, z8⟩, R2, d2, z9, z10⟩ := EOk.mk_.1 he
        have q7 := hZ.c7
        have q8 := hZ.c8
        rw [Nat.zero_mul, Nat.add_zero] at q7 q8
        rw [q7] at z7
        rw [q8] at z9
        cases z7
        cases z9
        exact ⟨z8, z10⟩
      have HZ : Hid (EAt (w.alloc (.cells #[.int .i64 0, .int .i64 0, .int .i64 0, .int .i64 0, .int .i64 0, .int .i64 0, .string ⟨#[]⟩, .slice none 0 0, .slice none 0 0] 30)) b o e A' c' R' d') := Lib.hid (by simpa using hZ.below (al (Below.refl _ _) (.cells #[.int .i64 0, .int .i64 0, .int .i64 0, .int .i64 0, .int .i64 0, .int .i64 0, .string ⟨#[]⟩, .slice none 0 0, .slice none 0 0] 30)))
      have HLR := Lib.hid hLR
      clear ih hA hA0 hZ hLR HA
      have hZ := HZ.out
      have x0 := hZ.c0
      have x1 := hZ.c1
      have x2 := hZ.c2
      have x3 := hZ.c3
      have x4 := hZ.c4
      have x5 := hZ.c5
      have x6 := hZ.c6
      have x7 := hZ.c7
      have x8 := hZ.c8
      clear hZ
      have HB9 := Lib.hid (Blk.new w 30 #[.int .i64 e.op, .int .i64 e.n, .int .i64 e.m, .int .i64 e.kind, .int .i64 e.lit.k, .int .i64 e.lit.n, .string e.lit.s, .slice A' e.args.length c', .slice R' e.rels.length d'])
      go_enter Tryz.func18, Tryz.ntmps18
      go_wp2_with fail
      have k0 := HB9.out.cell 0
      have k1 := HB9.out.cell 1
      have k2 := HB9.out.cell 2
      have k3 := HB9.out.cell 3
      have k4 := HB9.out.cell 4
      have k5 := HB9.out.cell 5
      have k6 := HB9.out.cell 6
      have k7 := HB9.out.cell 7
      have k8 := HB9.out.cell 8
      simp at k0 k1 k2 k3 k4 k5 k6 k7 k8
      exact bodyPost_ret (v := .agg #[.int .i64 e.op, .int .i64 e.n, .int .i64 e.m, .int .i64 e.kind, .int .i64 e.lit.k, .int .i64 e.lit.n, .string e.lit.s, .slice A' e.args.length c', .slice R' e.rels.length d']) (by simp [results, Tryz.results18, go_sem]) rfl ⟨⟨e, A', c', R', d'⟩, rfl, rfl, al (Below.refl _ _) _, HLR.out.kept (fun b hb => Below.heap_alloc w _ b (Nat.lt_of_lt_of_le hb hBw)) fun b hb => by have : b < B := hb; exact ⟨.inl this, by simp; omega⟩⟩
    · rw [jnE_few h2 h16]
      have h0i : ((l.length : Int) == 0) = false := beq_eq_false_iff_ne.2 (by omega)
      have h1i : ((l.length : Int) == 1) = false := beq_eq_false_iff_ne.2 (by omega)
      have h0n : (l.length == 0) = false := beq_eq_false_iff_ne.2 (by omega)
      have h1n : (l.length == 1) = false := beq_eq_false_iff_ne.2 (by omega)
      have h16i : (l.length : Int) ≤ 16 := by omega
      obtain ⟨hs, hhs, hrd, hok⟩ := hA0.held
      have HH := Lib.hid (And.intro hhs hok)
      have hhl : hs.length = l.length := by rw [← hhs, List.length_map]
      have HHl := Lib.hid hhl
      have hE0 : Below w.heap.size w ((w.alloc (.cells #[.int .i64 0, .int .i64 0, .int .i64 0, .int .i64 0, .int .i64 0, .int .i64 0, .string ⟨#[]⟩, .slice none 0 0, .slice none 0 0] 30)).alloc (.cells #[] 30)) := al (al (Below.refl _ _) _) _
      have HE0 : Hid (((w.alloc (.cells #[.int .i64 0, .int .i64 0, .int .i64 0, .int .i64 0, .int .i64 0, .int .i64 0, .string ⟨#[]⟩, .slice none 0 0, .slice none 0 0] 30)).alloc (.cells #[] 30)).ownsRow (w.heap.size + 1) 30 9 (.slice (some ⟨w.heap.size + 1, 0, none⟩) 0 0) 0 []) := Lib.hid (by have k := own_empty (w.alloc (.cells #[.int .i64 0, .int .i64 0, .int .i64 0, .int .i64 0, .int .i64 0, .int .i64 0, .string ⟨#[]⟩, .slice none 0 0, .slice none 0 0] 30)) 30 9; simpa using k)
      have HRd : Hid (Reads ((w.alloc (.cells #[.int .i64 0, .int .i64 0, .int .i64 0, .int .i64 0, .int .i64 0, .int .i64 0, .string ⟨#[]⟩, .slice none 0 0, .slice none 0 0] 30)).alloc (.cells #[] 30)) (w.heap.size + 1) 9 A l.length (hcells hs)) := Lib.hid (by
        rw [← hhl]
        exact ((hrd.reads (B := w.heap.size) fun b hb => Nat.lt_of_lt_of_le hb hBw).below hE0).more (by omega))
      obtain ⟨i0, hi, hz0, hz1, hz2⟩ := info_parts infoE
      clear ih hA hA0 hhs hrd hok hhl hE0
      go_enter Tryz.func18, Tryz.ntmps18
      go_wp2_with (at_builtin; refine wpList_append_any _ rfl (.tmp 21) (.tmp 22) 22 rfl (w.heap.size + 1) 30 i0 (.agg #[.int .i64 0, .int .i64 0, .int .i64 0, .int .i64 0, .int .i64 0, .int .i64 0, .string ⟨#[]⟩, .slice none 0 0, .slice none 0 0]) 9 112 Tryz.underlying22 hi hz0 hz1 hz2 rfl (by decide) (.slice (some ⟨w.heap.size + 1, 0, none⟩) 0 0) 0 [] rfl HE0.out (w.heap.size + 1) A l.length c (hcells hs) rfl HRd.out (hcells_one _) ?c1 ?c2 ?c3 ?_)
      case c1 => unfold maxLen; omega
      case c2 => omega
      case c3 => simp
      intro v' w4 hown4 hgrow hvb
      have HX : Hid (Below w.heap.size w w4 ∧ Blk w4 w.heap.size 30 #[.int .i64 0, .int .i64 0, .int .i64 0, .int .i64 0, .int .i64 0, .int .i64 0, .string ⟨#[]⟩, .slice none 0 0, .slice none 0 0] ∧ ∃ (A2 : Option Addr) (c2 : Nat), v' = .slice A2 l.length c2 ∧ LOk w4 (In2 B (w.heap.size + 1) w4.heap.size) A2 l) := Lib.hid (by
        have hE0 : Below w.heap.size w ((w.alloc (.cells #[.int .i64 0, .int .i64 0, .int .i64 0, .int .i64 0, .int .i64 0, .int .i64 0, .string ⟨#[]⟩, .slice none 0 0, .slice none 0 0] 30)).alloc (.cells #[] 30)) := al (al (Below.refl _ _) _) _
        have hW2 : ((w.alloc (.cells #[.int .i64 0, .int .i64 0, .int .i64 0, .int .i64 0, .int .i64 0, .int .i64 0, .string ⟨#[]⟩, .slice none 0 0, .slice none 0 0] 30)).alloc (.cells #[] 30)).heap.size = w.heap.size + 1 + 1 := by simp
        have hg : ∀ b, b < B → w4.heap[b]? = w.heap[b]? := fun b hb => (hgrow.block b (by rw [hW2]; omega) (fun e => by
          have e' : some b = some (w.heap.size + 1) := e
          injection e' with e'
          omega)).trans (hE0.block b (by omega))
        have hs4 := hgrow.size
        rw [hW2] at hs4
        refine ⟨hE0.grown hgrow (by simp; omega) (fun g hg => by
          have e' : some (w.heap.size + 1) = some g := hg
          injection e' with e'
          omega), (HB.out.2.alloc _).grown hgrow (fun e => by
          have e' : some w.heap.size = some (w.heap.size + 1) := e
          injection e' with e'
          omega), ?_⟩
        have ho : w4.ownsRow (w.heap.size + 1) 30 9 v' hs.length (hcells hs) := by rw [HHl.out]; simpa using hown4
        obtain ⟨A2, c2, e1, hL⟩ := LOk.own (P := In2 B (w.heap.size + 1) w4.heap.size) ho (fun x hx => (HH.out.2 x hx).kept hg fun b hb => ⟨.inl hb, by have : b < B := hb; omega⟩) (fun g h1 => ⟨.inr (ho.lt g h1).1, (ho.lt g h1).2⟩)
        rw [HH.out.1] at hL
        exact ⟨A2, c2, by rw [e1, HHl.out], hL⟩)
      obtain ⟨A2, c2, rfl, hL⟩ := HX.out.2.2
      have HL2 := Lib.hid hL
      clear hown4 hgrow hvb hL
      have hq := HX.out.2.1
      have hql := hq.lt
      have f0 := hq.frozen 0
      have f1 := hq.frozen 1
      have f2 := hq.frozen 2
      have f3 := hq.frozen 3
      have f4 := hq.frozen 4
      have f5 := hq.frozen 5
      have f6 := hq.frozen 6
      have f7 := hq.frozen 7
      have f8 := hq.frozen 8
      have d0 := hq.cell 0
      have d1 := hq.cell 1
      have d2 := hq.cell 2
      have d3 := hq.cell 3
      have d4 := hq.cell 4
      have d5 := hq.cell 5
      have d6 := hq.cell 6
      have d7 := hq.cell 7
      have d8 := hq.cell 8
      simp only [List.getElem?_toArray, List.getElem?_cons_succ, List.getElem?_cons_zero] at d0 d1 d2 d3 d4 d5 d6 d7 d8
      clear hq
      have HB9 := Lib.hid (HX.out.2.1.set9_ (.int .i64 19) (.int .i64 0) (.int .i64 0) (.int .i64 0) (.int .i64 0) (.int .i64 0) (.string ⟨#[]⟩) (.slice A2 l.length c2) (.slice none 0 0))
      go_wp2_with fail
      have k0 := HB9.out.cell 0
      have k1 := HB9.out.cell 1
      have k2 := HB9.out.cell 2
      have k3 := HB9.out.cell 3
      have k4 := HB9.out.cell 4
      have k5 := HB9.out.cell 5
      have k6 := HB9.out.cell 6
      have k7 := HB9.out.cell 7
      have k8 := HB9.out.cell 8
      simp at k0 k1 k2 k3 k4 k5 k6 k7 k8
      exact bodyPost_ret (v := .agg #[.int .i64 19, .int .i64 0, .int .i64 0, .int .i64 0, .int .i64 0, .int .i64 0, .string ⟨#[]⟩, .slice A2 l.length c2, .slice none 0 0]) (by simp [results, Tryz.results18, go_sem, k0, k1, k2, k3, k4, k5, k6, k7, k8]) rfl ⟨⟨andE l, A2, c2, none, 0⟩, rfl, rfl, st9 HX.out.1 (Nat.le_refl _) _ _ _ _ _ _ _ _ _, HL2.out.kept (fun b hb => set9_far _ _ _ _ _ _ _ _ _ _ _ b (by rcases hb.1 with h | h <;> omega)) (fun b hb => ⟨hb.1.imp id fun h => by omega, by rw [set9_size]; exact hb.2⟩), fun h => absurd h (Nat.lt_irrefl 0)⟩
    · rw [jnE_many h16]
      obtain ⟨b, o, A', c', R', d', rfl, -, -, -⟩ := hA.eat (i := 0) (by omega)
      have h0i : ((l.length : Int) == 0) = false := beq_eq_false_iff_ne.2 (by omega)
      have h1i : ((l.length : Int) == 1) = false := beq_eq_false_iff_ne.2 (by omega)
      have h0n : (l.length == 0) = false := beq_eq_false_iff_ne.2 (by omega)
      have h1n : (l.length == 1) = false := beq_eq_false_iff_ne.2 (by omega)
      have h16i : decide ((l.length : Int) ≤ 16) = false := decide_eq_false (by omega)
      have h16n : decide (l.length ≤ 16) = false := decide_eq_false (by omega)
      have hs1 : (15 : Int) ≤ (l.length : Int) := by omega
      have hs2 : (15 : Int) ≤ (c : Int) := by omega
      have hlc : (l.length : Int) ≤ (c : Int) := by omega
      have hdl : (l.drop 15).length = l.length - 15 := List.length_drop ..
      have HJ : Hid (∀ w1, Below w.heap.size w w1 → Calls Tryz.prog 18 #[.slice (some ⟨b, o + 135, none⟩) (l.length - 15) (c - 15)] w1 fun x w' => ∃ h : HE, h.e = jnE (l.drop 15) ∧ x = .returned h.val ∧ Below w1.heap.size w1 w' ∧ h.ok w' (In2 B w1.heap.size w'.heap.size)) := Lib.hid fun w1 hb => by
        have k := ih (l.drop 15) (some ⟨b, o + 15 * 9, none⟩) (c - 15) w1 (by omega) (by omega) (by omega) (by omega) (Nat.le_trans hBw hb.size) (LOk.drop 15 (hA0.kept (fun b h => hb.block b (Nat.lt_of_lt_of_le h hBw)) fun _ h => h))
        rw [hdl] at k
        exact k
      obtain ⟨hs, hhs, hrd, hok⟩ := hA0.heldT 15
      have HH := Lib.hid (And.intro hhs hok)
      have hhl : hs.length = 15 := by
        have := congrArg List.length hhs
        rw [List.length_map, List.length_take] at this
        omega
      have HHl := Lib.hid hhl
      have hE0 : Below w.heap.size w ((w.alloc (.cells #[.int .i64 0, .int .i64 0, .int .i64 0, .int .i64 0, .int .i64 0, .int .i64 0, .string ⟨#[]⟩, .slice none 0 0, .slice none 0 0] 30)).alloc (.cells #[] 30)) := al (al (Below.refl _ _) _) _
      have HE0 : Hid (((w.alloc (.cells #[.int .i64 0, .int .i64 0, .int .i64 0, .int .i64 0, .int .i64 0, .int .i64 0, .string ⟨#[]⟩, .slice none 0 0, .slice none 0 0] 30)).alloc (.cells #[] 30)).ownsRow (w.heap.size + 1) 30 9 (.slice (some ⟨w.heap.size + 1, 0, none⟩) 0 0) 0 []) := Lib.hid (by have k := own_empty (w.alloc (.cells #[.int .i64 0, .int .i64 0, .int .i64 0, .int .i64 0, .int .i64 0, .int .i64 0, .string ⟨#[]⟩, .slice none 0 0, .slice none 0 0] 30)) 30 9; simpa using k)
      have HRd : Hid (Reads ((w.alloc (.cells #[.int .i64 0, .int .i64 0, .int .i64 0, .int .i64 0, .int .i64 0, .int .i64 0, .string ⟨#[]⟩, .slice none 0 0, .slice none 0 0] 30)).alloc (.cells #[] 30)) (w.heap.size + 1) 9 (some ⟨b, o, none⟩) 15 (hcells hs)) := Lib.hid (by
        rw [← hhl]
        exact ((hrd.reads (B := w.heap.size) fun b hb => Nat.lt_of_lt_of_le hb hBw).below hE0).more (by omega))
      obtain ⟨i0, hi, hz0, hz1, hz2⟩ := info_parts infoE
      clear ih hA hA0 hhs hrd hok hhl hE0 hdl
      go_enter Tryz.func18, Tryz.ntmps18
      go_wp2_with (at_builtin; refine wpList_append_any _ rfl (.tmp 25) (.tmp 27) 22 rfl (w.heap.size + 1) 30 i0 (.agg #[.int .i64 0, .int .i64 0, .int .i64 0, .int .i64 0, .int .i64 0, .int .i64 0, .string ⟨#[]⟩, .slice none 0 0, .slice none 0 0]) 9 112 Tryz.underlying22 hi hz0 hz1 hz2 rfl (by decide) (.slice (some ⟨w.heap.size + 1, 0, none⟩) 0 0) 0 [] rfl HE0.out (w.heap.size + 1) (some ⟨b, o, none⟩) 15 c (hcells hs) rfl HRd.out (hcells_one _) ?c1 ?c2 ?c3 ?_)
      case c1 => unfold maxLen; omega
      case c2 => omega
      case c3 => simp
      intro v' w4 hown4 hgrow hvb
      have H4 : Hid (Below w.heap.size w w4 ∧ Blk w4 w.heap.size 30 #[.int .i64 0, .int .i64 0, .int .i64 0, .int .i64 0, .int .i64 0, .int .i64 0, .string ⟨#[]⟩, .slice none 0 0, .slice none 0 0] ∧ w4.ownsRow (w.heap.size + 1) 30 9 v' 15 (hcells hs) ∧ ∀ x ∈ hs, x.ok w4 (Lo B)) := Lib.hid (by
        have hE0 : Below w.heap.size w ((w.alloc (.cells #[.int .i64 0, .int .i64 0, .int .i64 0, .int .i64 0, .int .i64 0, .int .i64 0, .string ⟨#[]⟩, .slice none 0 0, .slice none 0 0] 30)).alloc (.cells #[] 30)) := al (al (Below.refl _ _) _) _
        have hW2 : ((w.alloc (.cells #[.int .i64 0, .int .i64 0, .int .i64 0, .int .i64 0, .int .i64 0, .int .i64 0, .string ⟨#[]⟩, .slice none 0 0, .slice none 0 0] 30)).alloc (.cells #[] 30)).heap.size = w.heap.size + 1 + 1 := by simp
        have hg : ∀ b, b < B → w4.heap[b]? = w.heap[b]? := fun b hb => (hgrow.block b (by rw [hW2]; omega) (fun e => by
          have e' : some b = some (w.heap.size + 1) := e
          injection e' with e'
          omega)).trans (hE0.block b (by omega))
        exact ⟨hE0.grown hgrow (by simp; omega) (fun g hg => by
          have e' : some (w.heap.size + 1) = some g := hg
          injection e' with e'
          omega), (HB.out.2.alloc _).grown hgrow (fun e => by
          have e' : some w.heap.size = some (w.heap.size + 1) := e
          injection e' with e'
          omega), by simpa using hown4, fun x hx => (HH.out.2 x hx).kept hg fun _ h => h⟩)
      obtain ⟨A2, d2, rfl⟩ := own_slc H4.out.2.2.1
      clear hown4 hgrow hvb HRd HE0
      go_wp2_with fail
      refine (HJ.out w4 H4.out.1).mono ?_
      rintro x w5 ⟨h, hhe, rfl, hb5, hok5⟩
      have H5 : Hid (Below w.heap.size w w5 ∧ Blk w5 w.heap.size 30 #[.int .i64 0, .int .i64 0, .int .i64 0, .int .i64 0, .int .i64 0, .int .i64 0, .string ⟨#[]⟩, .slice none 0 0, .slice none 0 0] ∧ w5.ownsRow (w.heap.size + 1) 30 9 (.slice A2 15 d2) 15 (hcells hs) ∧ (∀ x ∈ hs, x.ok w5 (Lo B)) ∧ h.e = jnE (l.drop 15) ∧ h.ok w5 (In2 B w4.heap.size w5.heap.size) ∧ (∀ g, (Value.slice A2 15 d2).ownBlock = some g → g < w4.heap.size) ∧ w.heap.size < w4.heap.size) := Lib.hid
        ⟨thn H4.out.1 hb5, H4.out.2.1.below hb5 H4.out.2.1.lt, own_below H4.out.2.2.1 hb5, (fun x hx => (H4.out.2.2.2 x hx).kept (fun b h => hb5.block b (by have := H4.out.1.size; have : b < B := h; omega)) fun _ h => h), hhe, hok5, (fun g hg => (H4.out.2.2.1.lt g hg).2), H4.out.2.1.lt⟩
      have hs5 := H5.out.2.1.lt
      clear hhe hb5 hok5 HJ H4 HB
      unfold HE.val E.val
      go_wp2_with (at_builtin; refine wpList_append_any _ rfl (.tmp 29) (.tmp 33) 22 rfl (w.heap.size + 1) 30 i0 (.agg #[.int .i64 0, .int .i64 0, .int .i64 0, .int .i64 0, .int .i64 0, .int .i64 0, .string ⟨#[]⟩, .slice none 0 0, .slice none 0 0]) 9 112 Tryz.underlying22 hi hz0 hz1 hz2 rfl (by decide) (.slice A2 15 d2) 15 (hcells hs) rfl (H5.out.2.2.1.alloc _) (w5.heap.size + 1) (some ⟨w5.heap.size, 0, none⟩) 1 1 (hcells [h]) rfl ?c0 (hcells_one _) ?c1 ?c2 ?c3 ?_)
      case c0 => exact Reads.he (Blk.new w5 _ _) (Nat.lt_succ_self _)
      case c1 => unfold maxLen; omega
      case c2 => omega
      case c3 => simp; omega
      intro v' w6 hown6 hgrow hvb
      have HX : Hid (Below w.heap.size w w6 ∧ Blk w6 w.heap.size 30 #[.int .i64 0, .int .i64 0, .int .i64 0, .int .i64 0, .int .i64 0, .int .i64 0, .string ⟨#[]⟩, .slice none 0 0, .slice none 0 0] ∧ ∃ (A3 : Option Addr) (c3 : Nat), v' = .slice A3 16 c3 ∧ LOk w6 (In2 B (w.heap.size + 1) w6.heap.size) A3 (l.take 15 ++ [jnE (l.drop 15)])) := Lib.hid (by
        have hb6 : Below w5.heap.size w5 (w5.alloc (.cells h.cells.toArray 30)) := al (Below.refl _ _) _
        have hlo : ∀ g, (Value.slice A2 15 d2).ownBlock = some g → w.heap.size + 1 ≤ g ∧ g < w4.heap.size := fun g hg => ⟨(H5.out.2.2.1.lt g hg).1, H5.out.2.2.2.2.2.2.1 g hg⟩
        have hs6 : w5.heap.size + 1 ≤ w6.heap.size := by have := hgrow.size; simpa using this
        have hg : ∀ b, b < w5.heap.size → some b ≠ (Value.slice A2 15 d2).ownBlock → w6.heap[b]? = w5.heap[b]? := fun b hb hne => (hgrow.block b (by simp; omega) hne).trans (hb6.block b hb)
        have hB5 := H5.out.1.size
        have hH5 := H5.out.2.2.2.2.2.2.2
        refine ⟨(thn H5.out.1 hb6).grown hgrow (by simp; omega) (fun g hg => by have := (hlo g hg).1; omega), (H5.out.2.1.alloc _).grown hgrow (fun e => by have := (hlo _ e.symm).1; omega), ?_⟩
        have ho : w6.ownsRow (w.heap.size + 1) 30 9 v' (hs ++ [h]).length (hcells (hs ++ [h])) := by rw [List.length_append, HHl.out, hcells_append]; exact hown6
        obtain ⟨A3, c3, e1, hL⟩ := LOk.own (P := In2 B (w.heap.size + 1) w6.heap.size) ho (fun x hx => by
          rcases List.mem_append.1 hx with hx | hx
          · exact (H5.out.2.2.2.1 x hx).kept (fun b hb => hg b (by have : b < B := hb; omega) (fun e => by have := (hlo _ e.symm).1; have : b < B := hb; omega)) fun b hb => ⟨.inl hb, by have : b < B := hb; omega⟩
          · rw [List.mem_singleton] at hx
            subst hx
            refine H5.out.2.2.2.2.2.1.kept (fun b hb => hg b hb.2 (fun e => ?_)) fun b hb => ⟨hb.1.imp id fun h => by omega, by have := hb.2; omega⟩
            have := hlo _ e.symm
            rcases hb.1 with h | h <;> omega) (fun g h1 => ⟨.inr (ho.lt g h1).1, (ho.lt g h1).2⟩)
        rw [List.map_append, HH.out.1, List.map_singleton, H5.out.2.2.2.2.1] at hL
        exact ⟨A3, c3, by rw [e1, List.length_append, HHl.out]; rfl, hL⟩)
      have hlj : (l.take 15 ++ [jnE (l.drop 15)]).length = 16 := by rw [List.length_append, List.length_take, Nat.min_eq_left (by omega)]; rfl
      generalize hsj : l.take 15 ++ [jnE (l.drop 15)] = lj at *
      have HSj := Lib.hid hsj
      clear hsj
      obtain ⟨A3, c3, rfl, hL⟩ := HX.out.2.2
      have HL2 := Lib.hid (And.intro hL hlj)
      clear hown6 hgrow hvb hL hlj H5
      have hq := HX.out.2.1
      have hql := hq.lt
      have f0 := hq.frozen 0
      have f1 := hq.frozen 1
      have f2 := hq.frozen 2
      have f3 := hq.frozen 3
      have f4 := hq.frozen 4
      have f5 := hq.frozen 5
      have f6 := hq.frozen 6
      have f7 := hq.frozen 7
      have f8 := hq.frozen 8
      have d0 := hq.cell 0
      have d1 := hq.cell 1
      have d2 := hq.cell 2
      have d3 := hq.cell 3
      have d4 := hq.cell 4
      have d5 := hq.cell 5
      have d6 := hq.cell 6
      have d7 := hq.cell 7
      have d8 := hq.cell 8
      simp only [List.getElem?_toArray, List.getElem?_cons_succ, List.getElem?_cons_zero] at d0 d1 d2 d3 d4 d5 d6 d7 d8
      clear hq
      have HB9 := Lib.hid (HX.out.2.1.set9_ (.int .i64 19) (.int .i64 0) (.int .i64 0) (.int .i64 0) (.int .i64 0) (.int .i64 0) (.string ⟨#[]⟩) (.slice A3 16 c3) (.slice none 0 0))
      go_wp2_with fail
      have k0 := HB9.out.cell 0
      have k1 := HB9.out.cell 1
      have k2 := HB9.out.cell 2
      have k3 := HB9.out.cell 3
      have k4 := HB9.out.cell 4
      have k5 := HB9.out.cell 5
      have k6 := HB9.out.cell 6
      have k7 := HB9.out.cell 7
      have k8 := HB9.out.cell 8
      simp at k0 k1 k2 k3 k4 k5 k6 k7 k8
      exact bodyPost_ret (v := .agg #[.int .i64 19, .int .i64 0, .int .i64 0, .int .i64 0, .int .i64 0, .int .i64 0, .string ⟨#[]⟩, .slice A3 16 c3, .slice none 0 0]) (by simp [results, Tryz.results18, go_sem, k0, k1, k2, k3, k4, k5, k6, k7, k8]) rfl ⟨⟨andE lj, A3, c3, none, 0⟩, by first | rw [HSj.out] | rw [← HSj.out], by simp [HE.val, E.val, E.op, E.n, E.m, E.kind, E.lit, E.args, E.rels, HL2.out.2], st9 HX.out.1 (Nat.le_refl _) _ _ _ _ _ _ _ _ _, HL2.out.1.kept (fun b hb => set9_far _ _ _ _ _ _ _ _ _ _ _ b (by rcases hb.1 with h | h <;> omega)) (fun b hb => ⟨hb.1.imp id fun h => by omega, by rw [set9_size]; exact hb.2⟩), fun h => absurd h (Nat.lt_irrefl 0)⟩
end Go.Proofs.YtdiehgfldndgbaaGreatDoor
