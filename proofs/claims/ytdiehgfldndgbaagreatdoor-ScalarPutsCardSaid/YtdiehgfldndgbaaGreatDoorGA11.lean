/-
  SmP: CONTRACTS of scalar.same and of the library's EqualFunc over it: equal data of expressions that have been checked.
  SmQ: CONTRACT of scalar.Same.
-/
import Derived.Test.YtdiehgfldndgbaaGreatDoorGA08
import Derived.Test.YtdiehgfldndgbaaGreatDoorSam
import Derived.Shelf.Abstract
namespace Go.Proofs.YtdiehgfldndgbaaGreatDoor
open Go.RowKit Go.Deep

mutual
/-- equal data, whatever relations there are -/
def sameF : E → E → Bool
  | .mk op n m k lit args _, .mk op' n' m' k' lit' args' _ =>
    op == op' && (n == n' && (m == m' && (k == k' && (veq lit.k lit.n lit.s lit'.k lit'.n lit'.s && (args.length == args'.length && sameFL args args')))))
def sameFL : List E → List E → Bool
  | e :: l, e' :: l' => sameF e e' && sameFL l l'
  | _, _ => true
end
theorem sameF_eq (e f : E) : sameF e f = (e.op == f.op && (e.n == f.n && (e.m == f.m && (e.kind == f.kind && (veq e.lit.k e.lit.n e.lit.s f.lit.k f.lit.n f.lit.s && (e.args.length == f.args.length && sameFL e.args f.args)))))) := by
  cases e; cases f; rw [sameF]; rfl
theorem sameFL_take : ∀ (l l' : List E) (k : Nat) (h : k < l.length) (h' : k < l'.length), sameFL (l.take k) (l'.take k) = true → sameFL (l.take (k + 1)) (l'.take (k + 1)) = sameF l[k] l'[k]
  | e :: l, e' :: l', 0, _, _, _ => by simp [sameFL]
  | e :: l, e' :: l', k + 1, h, h', hk => by
    simp only [List.take_succ_cons, sameFL, Bool.and_eq_true] at hk ⊢
    rw [hk.1, Bool.true_and]
    exact sameFL_take l l' k (by simpa using h) (by simpa using h') hk.2
theorem sameFL_stop : ∀ (l l' : List E) (k : Nat) (h : k < l.length) (h' : k < l'.length), sameF l[k] l'[k] = false → sameFL l l' = false
  | e :: l, e' :: l', 0, _, _, hk => by
    simp only [List.getElem_cons_zero] at hk
    rw [sameFL, hk]; rfl
  | e :: l, e' :: l', k + 1, h, h', hk => by
    rw [sameFL, sameFL_stop l l' k (by simpa using h) (by simpa using h') (by simpa using hk), Bool.and_false]
set_option maxHeartbeats 2000000 in
set_option maxRecDepth 100000 in
theorem EqualE_any (k : Nat) (ih : ∀ (e f : E) (A R : Option Addr) (c d : Nat) (A' R' : Option Addr) (c' d' : Nat) (w : World), nodesE e < k → k ≤ 1000000 → nodesE f < 1000000 → LOk w (Lo w.heap.size) A e.args → LOk w (Lo w.heap.size) A' f.args →
      Calls Tryz.prog 88 #[e.val A c R d, f.val A' c' R' d'] w fun x w' => x = .returned (.bool (sameF e f)) ∧ Below w.heap.size w w')
    (l l' : List E) (A A' : Option Addr) (c c' : Nat) (w : World) (hk : nodesL l < k) (hk1 : k ≤ 1000000) (hA : LOk w (Lo w.heap.size) A l) (hB : LOk w (Lo w.heap.size) A' l') (hl' : nodesL l' < 1000000) :
    Calls Tryz.prog 137 #[.slice A l.length c, .slice A' l'.length c', .func (.func 88) #[] #[]] w fun x w' => x = .returned (.bool (l.length == l'.length && sameFL l l')) ∧ Below w.heap.size w w' := by
  have hln := nodesL_len l
  have hln' := nodesL_len l'
  have IH := Lib.hid ih
  have HA := Lib.hid (And.intro hA hB)
  have heg := enters_of Tryz.func88 (by kernel_rfl) rfl
  clear ih hA hB
  by_cases hlen : l.length = l'.length
  · have HL : Hid (∀ b, (l.length == l'.length && b) = b) := Lib.hid fun b => by rw [hlen]; simp
    have hne : ((l.length : Int) != (l'.length : Int)) = false := by rw [hlen]; simp
    have HLn := Lib.hid hlen
    clear hlen
    go_enter Tryz.func137, Tryz.ntmps137
    go_wp2_with fail
    go_loopw [17] (fun iv wr => ∃ j : Nat, j ≤ l.length ∧ iv = .int .i64 j ∧ Hid (Below w.heap.size w wr) ∧ Hid (sameFL (l.take j) (l'.take j) = true)) (fun iv _ => l.length - (intOf iv).toNat)
    case atStart => exact ⟨0, Nat.zero_le _, rfl, Below.refl _ _, Lib.hid (by simp [sameFL])⟩
    case round =>
      obtain ⟨j, hj, rfl, HW, HT⟩ := hrel
      by_cases hlt : j < l.length
      · have hlti : (j : Int) < (l.length : Int) := by omega
        have hltf : j < l'.length := by rw [← HLn.out]; exact hlt
        have hltfi : (j : Int) < (l'.length : Int) := by omega
        obtain ⟨b, o, rfl, hb, he⟩ := (HA.out.1.below HW.out HW.out.size).at_ hlt
        obtain ⟨z0, z1, z2, z3, z4, z5, z6, ⟨A1, c1, z7, z8⟩, R1, d1, z9, z10⟩ := EOk.mk_.1 he
        have x0 : wr.cell? ⟨b, o + j * 9, none⟩ = some (.int .i64 l[j].op) := z0
        have x1 : wr.cell? ⟨b, o + j * 9 + 1, none⟩ = some (.int .i64 l[j].n) := z1
        have x2 : wr.cell? ⟨b, o + j * 9 + 2, none⟩ = some (.int .i64 l[j].m) := z2
        have x3 : wr.cell? ⟨b, o + j * 9 + 3, none⟩ = some (.int .i64 l[j].kind) := z3
        have x4 : wr.cell? ⟨b, o + j * 9 + 4, none⟩ = some (.int .i64 l[j].lit.k) := z4
        have x5 : wr.cell? ⟨b, o + j * 9 + 5, none⟩ = some (.int .i64 l[j].lit.n) := z5
        have x6 : wr.cell? ⟨b, o + j * 9 + 6, none⟩ = some (.string l[j].lit.s) := z6
        have x7 : wr.cell? ⟨b, o + j * 9 + 7, none⟩ = some ((.slice A1 l[j].args.length c1)) := z7
        have x8 : wr.cell? ⟨b, o + j * 9 + 8, none⟩ = some ((.slice R1 l[j].rels.length d1)) := z9
        obtain ⟨b', o', rfl, hb', he'⟩ := (HA.out.2.below HW.out HW.out.size).at_ hltf
        obtain ⟨t0, t1, t2, t3, t4, t5, t6, ⟨A2, c2, t7, t8⟩, R2, d2, t9, t10⟩ := EOk.mk_.1 he'
        have y0 : wr.cell? ⟨b', o' + j * 9, none⟩ = some (.int .i64 l'[j].op) := t0
        have y1 : wr.cell? ⟨b', o' + j * 9 + 1, none⟩ = some (.int .i64 l'[j].n) := t1
        have y2 : wr.cell? ⟨b', o' + j * 9 + 2, none⟩ = some (.int .i64 l'[j].m) := t2
        have y3 : wr.cell? ⟨b', o' + j * 9 + 3, none⟩ = some (.int .i64 l'[j].kind) := t3
        have y4 : wr.cell? ⟨b', o' + j * 9 + 4, none⟩ = some (.int .i64 l'[j].lit.k) := t4
        have y5 : wr.cell? ⟨b', o' + j * 9 + 5, none⟩ = some (.int .i64 l'[j].lit.n) := t5
        have y6 : wr.cell? ⟨b', o' + j * 9 + 6, none⟩ = some (.string l'[j].lit.s) := t6
        have y7 : wr.cell? ⟨b', o' + j * 9 + 7, none⟩ = some ((.slice A2 l'[j].args.length c2)) := t7
        have y8 : wr.cell? ⟨b', o' + j * 9 + 8, none⟩ = some ((.slice R2 l'[j].rels.length d2)) := t9
        have hm := nodesL_mem (List.getElem_mem hlt)
        have hm' := nodesL_mem (List.getElem_mem hltf)
        have HK : Hid (∀ o1 o2, Calls Tryz.prog 88 #[l[j].val A1 c1 R1 d1, l'[j].val A2 c2 R2 d2] ((wr.alloc o1).alloc o2) fun x w' => x = .returned (.bool (sameF l[j] l'[j])) ∧ Below ((wr.alloc o1).alloc o2).heap.size ((wr.alloc o1).alloc o2) w') := Lib.hid fun o1 o2 =>
          IH.out _ _ A1 R1 c1 d1 A2 R2 c2 d2 _ (by omega) hk1 (by omega) (z8.below (al (al (Below.refl _ _) _) _) (by simp; omega)) (t8.below (al (al (Below.refl _ _) _) _) (by simp; omega))
        have HSt := Lib.hid (sameFL_take l l' j hlt hltf HT.out)
        have HSp := Lib.hid (sameFL_stop l l' j hlt hltf)
        clear z0 z1 z2 z3 z4 z5 z6 z7 z8 z9 z10 t0 t1 t2 t3 t4 t5 t6 t7 t8 t9 t10 he he' hm hm'
        cases hq : sameF l[j] l'[j] with
        | true =>
          have HN : Hid (sameFL (l.take (j + 1)) (l'.take (j + 1)) = true) := Lib.hid (by rw [HSt.out, hq])
          rw [hq] at HK
          clear hq HSt HSp
          generalize l[j] = ei at *
          generalize l'[j] = fi at *
          unfold E.val at HK
          go_wp2_with fail
          refine (HK.out _ _).mono ?_
          rintro x w3 ⟨rfl, hb3⟩
          have HN2 := Lib.hid (thn (al (al HW.out _) _) hb3)
          clear hb3
          go_wp2_with fail
          exact ⟨⟨j + 1, by omega, by go_num, HN2, HN⟩, by simp [intOf]; omega⟩
        | false =>
          have HN : Hid ((l.length == l'.length && sameFL l l') = false) := Lib.hid (by rw [HSp.out hq, Bool.and_false])
          rw [hq] at HK
          clear hq HSt HSp
          generalize l[j] = ei at *
          generalize l'[j] = fi at *
          unfold E.val at HK
          go_wp2_with fail
          refine (HK.out _ _).mono ?_
          rintro x w3 ⟨rfl, hb3⟩
          have HN2 := Lib.hid (thn (al (al HW.out _) _) hb3)
          clear hb3
          go_wp2_with fail
          go_ret
          exact ⟨by rw [HN.out]; rfl, HN2.out⟩
      · have hlf : decide ((j : Int) < (l.length : Int)) = false := decide_eq_false (by omega)
        have HN : Hid ((l.length == l'.length && sameFL l l') = true) := Lib.hid (by
          rw [HL.out]
          have h := HT.out
          rw [List.take_of_length_le (by omega), List.take_of_length_le (by rw [← HLn.out]; omega)] at h
          exact h)
        go_wp2_with fail
        go_ret
        exact ⟨by rw [HN.out]; rfl, HW.out⟩
  · have hne : ((l.length : Int) != (l'.length : Int)) = true := by
      rw [bne_iff_ne]; omega
    have HN : Hid ((l.length == l'.length && sameFL l l') = false) := Lib.hid (by rw [beq_eq_false_iff_ne.2 hlen]; rfl)
    clear hlen
    go_enter Tryz.func137, Tryz.ntmps137
    go_wp2_with fail
    go_ret
    exact ⟨by rw [HN.out]; rfl, Below.refl _ _⟩
set_option maxHeartbeats 4000000 in
set_option maxRecDepth 100000 in
theorem sameP_any : ∀ (k : Nat) (e f : E) (A R : Option Addr) (c d : Nat) (A' R' : Option Addr) (c' d' : Nat) (w : World), nodesE e < k → k ≤ 1000000 → nodesE f < 1000000 → LOk w (Lo w.heap.size) A e.args → LOk w (Lo w.heap.size) A' f.args →
    Calls Tryz.prog 88 #[e.val A c R d, f.val A' c' R' d'] w fun x w' => x = .returned (.bool (sameF e f)) ∧ Below w.heap.size w w' := by
  intro k
  induction k with
  | zero => intro e f A R c d A' R' c' d' w h; exact absurd h (Nat.not_lt_zero _)
  | succ k ih =>
    intro e f A R c d A' R' c' d' w hk hk1 hkf hA hB
    have HS := Lib.hid (sameF_eq e f)
    have hev := @eqV
    have hne := nodesE_args e
    have hnf := nodesE_args f
    have HA := Lib.hid (And.intro hA hB)
    have HQ : Hid (∀ w1, Below w.heap.size w w1 → Calls Tryz.prog 137 #[.slice A e.args.length c, .slice A' f.args.length c', .func (.func 88) #[] #[]] w1 fun x w' => x = .returned (.bool (e.args.length == f.args.length && sameFL e.args f.args)) ∧ Below w1.heap.size w1 w') := Lib.hid fun w1 hb =>
      EqualE_any k ih e.args f.args A A' c c' w1 (by omega) (by omega) (HA.out.1.below hb hb.size) (HA.out.2.below hb hb.size) (by omega)
    generalize (e.args.length == f.args.length && sameFL e.args f.args) = qa at *
    clear ih hA hB hk hk1 hkf hne hnf
    unfold E.val
    cases h1 : (e.op == f.op) with
    | false =>
      rw [h1] at HS
      simp only [Bool.false_and] at HS
      go_enter Tryz.func88, Tryz.ntmps88
      go_wp2_with fail
      go_ret
      exact ⟨by rw [HS.out]; rfl, al (al (Below.refl _ _) _) _⟩
    | true =>
      rw [h1] at HS
      cases h2 : (e.n == f.n) with
      | false =>
        rw [h2] at HS
        simp only [Bool.false_and, Bool.true_and] at HS
        go_enter Tryz.func88, Tryz.ntmps88
        go_wp2_with fail
        go_ret
        exact ⟨by rw [HS.out]; rfl, al (al (Below.refl _ _) _) _⟩
      | true =>
        rw [h2] at HS
        cases h3 : (e.m == f.m) with
        | false =>
          rw [h3] at HS
          simp only [Bool.false_and, Bool.true_and] at HS
          go_enter Tryz.func88, Tryz.ntmps88
          go_wp2_with fail
          go_ret
          exact ⟨by rw [HS.out]; rfl, al (al (Below.refl _ _) _) _⟩
        | true =>
          rw [h3] at HS
          cases h4 : (e.kind == f.kind) with
          | false =>
            rw [h4] at HS
            simp only [Bool.false_and, Bool.true_and] at HS
            go_enter Tryz.func88, Tryz.ntmps88
            go_wp2_with fail
            go_ret
            exact ⟨by rw [HS.out]; rfl, al (al (Below.refl _ _) _) _⟩
          | true =>
            rw [h4] at HS
            cases h5 : (veq e.lit.k e.lit.n e.lit.s f.lit.k f.lit.n f.lit.s) with
            | false =>
              rw [h5] at HS
              simp only [Bool.false_and, Bool.true_and] at HS
              go_enter Tryz.func88, Tryz.ntmps88
              go_wp2_with fail
              go_ret
              exact ⟨by rw [HS.out]; rfl, al (al (Below.refl _ _) _) _⟩
            | true =>
              rw [h5] at HS
              go_enter Tryz.func88, Tryz.ntmps88
              go_wp2_with (go_at_call 137; refine (HQ.out _ (al (al (Below.refl _ _) _) _)).mono ?_; rintro x w2 ⟨rfl, hb2⟩)
              go_ret
              exact ⟨by rw [HS.out]; rfl, thn (al (al (Below.refl _ _) _) _) hb2⟩
end Go.Proofs.YtdiehgfldndgbaaGreatDoor
namespace Go.Proofs.YtdiehgfldndgbaaGreatDoor
open Go.RowKit Go.Deep

theorem cksE_cases (l : List E) : (l.all formE = true ∧ cksE l = 0) ∨ (l.all formE = false ∧ cksE l = 30) := by
  unfold cksE
  cases l.all formE
  · exact .inr ⟨rfl, rfl⟩
  · exact .inl ⟨rfl, rfl⟩
/-- two expressions in a block of their own -/
theorem LOk.two {w : World} {P : Nat → Prop} {g : Nat} {T : TypeId} {e f : E} {A R A' R' : Option Addr} {c d c' d' : Nat} (k : Blk w g T #[.int .i64 e.op, .int .i64 e.n, .int .i64 e.m, .int .i64 e.kind, .int .i64 e.lit.k, .int .i64 e.lit.n, .string e.lit.s, .slice A e.args.length c, .slice R e.rels.length d, .int .i64 f.op, .int .i64 f.n, .int .i64 f.m, .int .i64 f.kind, .int .i64 f.lit.k, .int .i64 f.lit.n, .string f.lit.s, .slice A' f.args.length c', .slice R' f.rels.length d'])
    (hg : P g) (hA : LOk w P A e.args) (hR : ROk w P R e.rels) (hA' : LOk w P A' f.args) (hR' : ROk w P R' f.rels) : LOk w P (some ⟨g, 0, none⟩) [e, f] :=
  LOk.of hg fun i hi => by
    have h0 : i = 0 ∨ i = 1 := by simp at hi; omega
    refine EOk.mk_.2 ?_
    rcases h0 with rfl | rfl
    · simp only [Nat.zero_mul, Nat.zero_add]
      exact ⟨k.cell 0, k.cell 1, k.cell 2, k.cell 3, k.cell 4, k.cell 5, k.cell 6, ⟨A, c, k.cell 7, hA⟩, R, d, k.cell 8, hR⟩
    · simp only [Nat.one_mul, Nat.zero_add]
      exact ⟨k.cell 9, k.cell 10, k.cell 11, k.cell 12, k.cell 13, k.cell 14, k.cell 15, ⟨A', c', k.cell 16, hA'⟩, R', d', k.cell 17, hR'⟩
/-- what is asked of an expression that a call is given -/
structure EHas (w : World) (e : E) (A R : Option Addr) : Prop where
  n : nodesE e < 1000000
  f : fitX e
  a : LOk w (Lo w.heap.size) A e.args
  r : ROk w (Lo w.heap.size) R e.rels
theorem EHas.below {w w' : World} {e : E} {A R : Option Addr} (h : EHas w e A R) (hb : Below w.heap.size w w') : EHas w' e A R := ⟨h.n, h.f, h.a.below hb hb.size, h.r.below hb hb.size⟩
set_option maxHeartbeats 2000000 in
set_option maxRecDepth 100000 in
theorem SameP_any (e f : E) (A R A' R' : Option Addr) (c d c' d' : Nat) (w : World) (hG : GS w) (hE : EHas w e A R) (hF : EHas w f A' R') :
    Calls Tryz.prog 53 #[e.val A c R d, f.val A' c' R' d'] w fun x w' => x = .returned (.tuple #[.bool (formE e && formE f && sameF e f), .int .i64 (cksE [e, f])]) ∧ Below w.heap.size w w' := by
  have HE := Lib.hid (And.intro hG (And.intro hE hF))
  have HK : Hid (∀ g w1, Blk w1 g 30 #[.int .i64 e.op, .int .i64 e.n, .int .i64 e.m, .int .i64 e.kind, .int .i64 e.lit.k, .int .i64 e.lit.n, .string e.lit.s, .slice A e.args.length c, .slice R e.rels.length d, .int .i64 f.op, .int .i64 f.n, .int .i64 f.m, .int .i64 f.kind, .int .i64 f.lit.k, .int .i64 f.lit.n, .string f.lit.s, .slice A' f.args.length c', .slice R' f.rels.length d'] → Below w.heap.size w w1 →
      Calls Tryz.prog 46 #[.slice (some ⟨g, 0, none⟩) 2 2] w1 fun x w' => x = .returned (.int .i64 (cksE [e, f])) ∧ Below w1.heap.size w1 w') := Lib.hid fun g w1 k hb =>
    checkE_any (some ⟨g, 0, none⟩) 2 [e, f] w1 (by simp) (fun x hx => by
      rcases List.mem_cons.1 hx with rfl | hx
      · exact ⟨hE.n, hE.f⟩
      · rw [List.mem_singleton] at hx; subst hx; exact ⟨hF.n, hF.f⟩) (hG.thn hb) (LOk.two k k.lt (hE.below hb).a (hE.below hb).r (hF.below hb).a (hF.below hb).r)
  have HS : Hid (∀ w1, Below w.heap.size w w1 → Calls Tryz.prog 88 #[e.val A c R d, f.val A' c' R' d'] w1 fun x w' => x = .returned (.bool (sameF e f)) ∧ Below w1.heap.size w1 w') := Lib.hid fun w1 hb =>
    sameP_any 1000000 e f A R c d A' R' c' d' w1 hE.n (Nat.le_refl _) hF.n (hE.below hb).a (hF.below hb).a
  unfold E.val at HS ⊢
  clear hG hE hF
  rcases cksE_cases [e, f] with ⟨hq, hc⟩ | ⟨hq, hc⟩
  · have HR : Hid ((formE e && formE f && sameF e f) = sameF e f) := Lib.hid (by
      simp only [List.all_cons, List.all_nil, Bool.and_true] at hq
      rw [hq, Bool.true_and])
    rw [hc] at HK ⊢
    generalize sameF e f = qs at *
    clear hq hc
    go_enter Tryz.func53, Tryz.ntmps53
    go_wp2_with fail
    have hb0 := fun (o1 o2 o3 : Obj) => al (al (al (Below.refl w.heap.size w) o1) o2) o3
    refine (HK.out _ _ (Blk.new' (by simp)) (hb0 _ _ _)).mono ?_
    rintro x w2 ⟨rfl, hb2⟩
    have H2 := Lib.hid (And.intro (thn (hb0 _ _ _) hb2) (And.intro ((((Blk.new w 30 #[.int .i64 e.op, .int .i64 e.n, .int .i64 e.m, .int .i64 e.kind, .int .i64 e.lit.k, .int .i64 e.lit.n, .string e.lit.s, .slice A e.args.length c, .slice R e.rels.length d]).alloc _).alloc _).below hb2 (by simp; omega)) (((Blk.new' (t := 30) (cs := #[.int .i64 f.op, .int .i64 f.n, .int .i64 f.m, .int .i64 f.kind, .int .i64 f.lit.k, .int .i64 f.lit.n, .string f.lit.s, .slice A' f.args.length c', .slice R' f.rels.length d']) (g := w.heap.size + 1) (by simp)).alloc _).below hb2 (by simp))))
    clear hb0 hb2
    have a0 := H2.out.2.1
    have b0 := H2.out.2.2
    have c0 := a0.cell 0
    have c1 := a0.cell 1
    have c2 := a0.cell 2
    have c3 := a0.cell 3
    have c4 := a0.cell 4
    have c5 := a0.cell 5
    have c6 := a0.cell 6
    have c7 := a0.cell 7
    have c8 := a0.cell 8
    have d0 := b0.cell 0
    have d1 := b0.cell 1
    have d2 := b0.cell 2
    have d3 := b0.cell 3
    have d4 := b0.cell 4
    have d5 := b0.cell 5
    have d6 := b0.cell 6
    have d7 := b0.cell 7
    have d8 := b0.cell 8
    simp only [List.getElem?_toArray, List.getElem?_cons_succ, List.getElem?_cons_zero] at c0 c1 c2 c3 c4 c5 c6 c7 c8 d0 d1 d2 d3 d4 d5 d6 d7 d8
    clear a0 b0
    go_wp2_with fail
    refine (HS.out _ H2.out.1).mono ?_
    rintro x w3 ⟨rfl, hb3⟩
    have H3 := Lib.hid (thn H2.out.1 hb3)
    clear hb3 c0 c1 c2 c3 c4 c5 c6 c7 c8 d0 d1 d2 d3 d4 d5 d6 d7 d8
    go_wp2_with fail
    go_ret2
    exact ⟨by rw [HR.out]; rfl, H3.out⟩
  · have HR : Hid ((formE e && formE f && sameF e f) = false) := Lib.hid (by
      simp only [List.all_cons, List.all_nil, Bool.and_true] at hq
      rw [hq, Bool.false_and])
    rw [hc] at HK ⊢
    clear hq hc
    go_enter Tryz.func53, Tryz.ntmps53
    go_wp2_with fail
    have hb0 := fun (o1 o2 o3 : Obj) => al (al (al (Below.refl w.heap.size w) o1) o2) o3
    refine (HK.out _ _ (Blk.new' (by simp)) (hb0 _ _ _)).mono ?_
    rintro x w2 ⟨rfl, hb2⟩
    have H2 := Lib.hid (thn (hb0 _ _ _) hb2)
    clear hb0 hb2
    go_wp2_with fail
    go_ret2
    exact ⟨by rw [HR.out]; rfl, H2.out⟩
end Go.Proofs.YtdiehgfldndgbaaGreatDoor
