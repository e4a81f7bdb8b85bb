/-
  CONTRACT of the law's bad: the error that an expression on columns earns.
-/
import Derived.Test.YtcbcncaoabablaaGreatDoorGA24
import Derived.Test.YtcbcncaoabablaaGreatDoorGA18
import Derived.Test.YtcbcncaoabablaaGreatDoorGA08
namespace Go.Proofs.YtcbcncaoabablaaGreatDoor
open Go.RowKit Go.Deep

theorem kindC_isSome (cs : List Co) (e : E) : (kindC cs e).2 = (kindE cs e).isSome := by
  rw [kindC_E]
  cases (kindC cs e).2 <;> rfl
set_option maxHeartbeats 4000000 in
set_option maxRecDepth 100000 in
theorem bad_any (e : E) (A R : Option Addr) (c d : Nat) (cs : List Co) (Ac : Option Addr) (cc : Nat) (w : World) (hE : EHas w e A R) (hC : KReads w w.heap.size Ac cs) (hcl : cs.length ≤ 1000) :
    Calls Tryz.prog 21 #[e.val A c R d, .slice Ac cs.length cc] w fun x w' => x = .returned (.int .i64 (kndF cs e)) ∧ Below w.heap.size w w' := by
  have HCl := Lib.hid (RCols_any Ac cc cs (w.alloc (.cells #[.int .i64 e.op, .int .i64 e.n, .int .i64 e.m, .int .i64 e.kind, .int .i64 e.lit.k, .int .i64 e.lit.n, .string e.lit.s, .slice A e.args.length c, .slice R e.rels.length d] 29)) (hC.below (al (Below.refl _ _) _) (by simp)) (by omega))
  have HF := Lib.hid (Form_any e A R c d (w.alloc (.cells #[.int .i64 e.op, .int .i64 e.n, .int .i64 e.m, .int .i64 e.kind, .int .i64 e.lit.k, .int .i64 e.lit.n, .string e.lit.s, .slice A e.args.length c, .slice R e.rels.length d] 29)) hE.n hE.f (hE.below (al (Below.refl _ _) _)).a)
  have HK : Hid (formE e = true → ∀ w1, Below w.heap.size w w1 → Calls Tryz.prog 22 #[e.val A c R d, .slice Ac cs.length cc] w1 fun x w' => x = .returned (.tuple #[.agg #[.int .i64 (kindC cs e).1.1, .bool (kindC cs e).1.2], .bool (kindE cs e).isSome]) ∧ Below w1.heap.size w1 w') := Lib.hid fun hf w1 hb => by
    have k := RKind_any 1000000 24 e A R c d cs Ac cc w1 hE.n (Nat.le_refl _) (formE_iff.1 hf).1 (hE.below hb).a (hC.below hb hb.size) hcl
    rw [kindC_isSome] at k
    exact k
  have H0 : Hid (Below w.heap.size w (w.alloc (.cells #[.int .i64 e.op, .int .i64 e.n, .int .i64 e.m, .int .i64 e.kind, .int .i64 e.lit.k, .int .i64 e.lit.n, .string e.lit.s, .slice A e.args.length c, .slice R e.rels.length d] 29)) ∧ Blk (w.alloc (.cells #[.int .i64 e.op, .int .i64 e.n, .int .i64 e.m, .int .i64 e.kind, .int .i64 e.lit.k, .int .i64 e.lit.n, .string e.lit.s, .slice A e.args.length c, .slice R e.rels.length d] 29)) w.heap.size 29 #[.int .i64 e.op, .int .i64 e.n, .int .i64 e.m, .int .i64 e.kind, .int .i64 e.lit.k, .int .i64 e.lit.n, .string e.lit.s, .slice A e.args.length c, .slice R e.rels.length d]) := Lib.hid ⟨al (Below.refl _ _) _, Blk.new w _ _⟩
  have HD : Hid (kndF cs e = if colsE cs = 0 then (if formE e = true then (if (kindE cs e).isSome = true then 0 else 31) else 30) else 20) := Lib.hid rfl
  clear hE hC
  unfold E.val at HF HK ⊢
  by_cases hz : colsE cs = 0
  · have hz1 : (colsE cs != 0) = false := by rw [bne_eq_false_iff_eq]; exact hz
    rw [if_pos hz] at HD
    generalize colsE cs = q at *
    cases hf : formE e with
    | false =>
      have HR : Hid (kndF cs e = 30) := Lib.hid (by rw [HD.out, hf]; rfl)
      rw [hf] at HF
      clear HK HD hz
      go_enter Tryz.func21, Tryz.ntmps21
      go_wp2_with fail
      refine HCl.out.mono ?_
      rintro x w2 ⟨rfl, rfl⟩
      go_wp2_with fail
      refine HF.out.mono ?_
      rintro x w2 ⟨rfl, hb2⟩
      have H2 := Lib.hid (thn H0.out.1 hb2)
      clear hb2
      go_wp2_with fail
      go_ret
      exact ⟨by rw [HR.out]; rfl, H2.out⟩
    | true =>
      have HKf := Lib.hid (HK.out hf)
      rw [hf] at HF
      rw [if_pos hf] at HD
      clear HK hz
      generalize hs : (kindE cs e).isSome = s at *
      go_enter Tryz.func21, Tryz.ntmps21
      go_wp2_with fail
      refine HCl.out.mono ?_
      rintro x w2 ⟨rfl, rfl⟩
      go_wp2_with fail
      refine HF.out.mono ?_
      rintro x w3 ⟨rfl, hb2⟩
      have H2 := Lib.hid (And.intro (thn H0.out.1 hb2) (H0.out.2.below hb2 H0.out.2.lt))
      clear hb2
      have hq := H2.out.2
      have x0 := hq.cell 0
      have x1 := hq.cell 1
      have x2 := hq.cell 2
      have x3 := hq.cell 3
      have x4 := hq.cell 4
      have x5 := hq.cell 5
      have x6 := hq.cell 6
      have x7 := hq.cell 7
      have x8 := hq.cell 8
      simp only [List.getElem?_toArray, List.getElem?_cons_succ, List.getElem?_cons_zero] at x0 x1 x2 x3 x4 x5 x6 x7 x8
      clear hq
      go_wp2_with fail
      refine (HKf.out _ H2.out.1).mono ?_
      rintro x w4 ⟨rfl, hb4⟩
      have H4 := Lib.hid (thn H2.out.1 hb4)
      clear hb4
      clear x0 x1 x2 x3 x4 x5 x6 x7 x8
      cases s
      · have HR : Hid (kndF cs e = 31) := Lib.hid (by rw [HD.out]; rfl)
        go_wp2_with fail
        go_ret
        exact ⟨by rw [HR.out]; rfl, al H4.out _⟩
      · have HR : Hid (kndF cs e = 0) := Lib.hid (by rw [HD.out]; rfl)
        go_wp2_with fail
        go_ret
        exact ⟨by rw [HR.out]; rfl, al H4.out _⟩
  · have hz1 : (colsE cs != 0) = true := by rw [bne_iff_ne]; exact hz
    have HR : Hid (kndF cs e = 20) := Lib.hid (by rw [HD.out, if_neg hz])
    clear HD hz HK HF
    generalize colsE cs = q at *
    go_enter Tryz.func21, Tryz.ntmps21
    go_wp2_with fail
    refine HCl.out.mono ?_
    rintro x w2 ⟨rfl, rfl⟩
    go_wp2_with fail
    go_ret
    exact ⟨by rw [HR.out]; rfl, H0.out.1⟩
end Go.Proofs.YtcbcncaoabablaaGreatDoor
