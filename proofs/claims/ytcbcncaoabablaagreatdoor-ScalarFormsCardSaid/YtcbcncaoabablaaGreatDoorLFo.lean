/-
  THE WALK of ScalarForms.
-/
import Derived.Test.YtcbcncaoabablaaGreatDoorGA26
import Derived.Test.YtcbcncaoabablaaGreatDoorRSt
import Derived.Test.YtcbcncaoabablaaGreatDoorGA18
import Derived.Test.YtcbcncaoabablaaGreatDoorGA24
import Derived.Test.YtcbcncaoabablaaGreatDoorGA08
import Derived.Test.YtcbcncaoabablaaGreatDoorSam
namespace Go.Proofs.YtcbcncaoabablaaGreatDoor
open Go.RowKit Go.Deep

mutual
theorem sameE_self : ∀ e : E, sameE e e = true
  | .mk op n m k lit args rels => by
    have h := sameL_self args
    rw [sameE]
    simp [h]
theorem sameL_self : ∀ l : List E, sameL l l = true
  | [] => by rw [sameL]; simp
  | e :: l => by rw [sameL, sameE_self e, sameL_self l]; rfl
end
mutual
theorem conjE_nodes : ∀ (e x : E), x ∈ conjE e → nodesE x ≤ nodesE e
  | .mk op n m k lit args rels, x, h => by
    rw [conjE] at h
    split at h
    · have h1 := conjL_nodes args x h
      have h2 := nodesE_args (.mk op n m k lit args rels)
      have h3 : (E.mk op n m k lit args rels).args = args := rfl
      rw [h3] at h2
      omega
    · rw [List.mem_singleton] at h
      rw [h]; exact Nat.le_refl _
theorem conjL_nodes : ∀ (l : List E) (x : E), x ∈ conjL l → nodesE x ≤ nodesL l
  | [], x, h => by simp [conjL] at h
  | e :: l, x, h => by
    rw [conjL, List.mem_append] at h
    simp only [nodesL]
    rcases h with h | h
    · have := conjE_nodes e x h; omega
    · have := conjL_nodes l x h; omega
end
theorem HReads.mono {w : World} {P P' : Nat → Prop} {A : Option Addr} {hs : List HE} (h : HReads w P A hs) (hP : ∀ b, P b → P' b) : HReads w P' A hs := fun h0 => by
  obtain ⟨b, o, rfl, hb, hc⟩ := h h0
  exact ⟨b, o, rfl, hP b hb, hc⟩
set_option maxHeartbeats 16000000 in
set_option maxRecDepth 100000 in
theorem ScalarForms_any (e : E) (A R : Option Addr) (c d : Nat) (w : World) (hG : GE w) (hS : GS w) (hI : EIn e) (hA : LOk w (Lo w.heap.size) A e.args) (hR : ROk w (Lo w.heap.size) R e.rels) :
    Calls Tryz.prog 3 #[e.val A c R d] w fun x w' => x = .returned (.bool true) ∧ Below w.heap.size w w' := by
  have hb0 : Below w.heap.size w (w.alloc (.cells #[.int .i64 e.op, .int .i64 e.n, .int .i64 e.m, .int .i64 e.kind, .int .i64 e.lit.k, .int .i64 e.lit.n, .string e.lit.s, .slice A e.args.length c, .slice R e.rels.length d] 29)) := al (Below.refl _ _) _
  have HCe := Lib.hid (CutW_any e A R c d (w.alloc (.cells #[.int .i64 e.op, .int .i64 e.n, .int .i64 e.m, .int .i64 e.kind, .int .i64 e.lit.k, .int .i64 e.lit.n, .string e.lit.s, .slice A e.args.length c, .slice R e.rels.length d] 29)) hI (hA.below hb0 hb0.size) (hR.below hb0 hb0.size))
  have H0 := Lib.hid (And.intro hI (And.intro hG (And.intro hS hb0)))
  clear hG hS hI hA hR hb0
  unfold E.val at HCe ⊢
  go_enter Tryz.func3, Tryz.ntmps3
  go_wp2_with fail
  refine HCe.out.mono ?_
  rintro x w2 ⟨h, hh, rfl, hb2, hok⟩
  obtain ⟨g3, hg3⟩ : ∃ g, g = w2.heap.size := ⟨_, rfl⟩
  have hb3 : Below w2.heap.size w2 (w2.alloc (.cells #[.int .i64 h.e.op, .int .i64 h.e.n, .int .i64 h.e.m, .int .i64 h.e.kind, .int .i64 h.e.lit.k, .int .i64 h.e.lit.n, .string h.e.lit.s, .slice h.A h.e.args.length h.c, .slice h.R h.e.rels.length h.d] 29)) := al (Below.refl _ _) _
  have h3 : h.ok (w2.alloc (.cells #[.int .i64 h.e.op, .int .i64 h.e.n, .int .i64 h.e.m, .int .i64 h.e.kind, .int .i64 h.e.lit.k, .int .i64 h.e.lit.n, .string h.e.lit.s, .slice h.A h.e.args.length h.c, .slice h.R h.e.rels.length h.d] 29)) (Lo (w2.alloc (.cells #[.int .i64 h.e.op, .int .i64 h.e.n, .int .i64 h.e.m, .int .i64 h.e.kind, .int .i64 h.e.lit.k, .int .i64 h.e.lit.n, .string h.e.lit.s, .slice h.A h.e.args.length h.c, .slice h.R h.e.rels.length h.d] 29)).heap.size) := hok.kept (fun b hb => hb3.block b hb.2) fun b hb => Nat.lt_of_lt_of_le hb.2 hb3.size
  have HX := Lib.hid (cut_has H0.out.1 hh h3)
  have H3 : Hid (Below w.heap.size w (w2.alloc (.cells #[.int .i64 h.e.op, .int .i64 h.e.n, .int .i64 h.e.m, .int .i64 h.e.kind, .int .i64 h.e.lit.k, .int .i64 h.e.lit.n, .string h.e.lit.s, .slice h.A h.e.args.length h.c, .slice h.R h.e.rels.length h.d] 29)) ∧ Blk (w2.alloc (.cells #[.int .i64 h.e.op, .int .i64 h.e.n, .int .i64 h.e.m, .int .i64 h.e.kind, .int .i64 h.e.lit.k, .int .i64 h.e.lit.n, .string h.e.lit.s, .slice h.A h.e.args.length h.c, .slice h.R h.e.rels.length h.d] 29)) g3 29 #[.int .i64 h.e.op, .int .i64 h.e.n, .int .i64 h.e.m, .int .i64 h.e.kind, .int .i64 h.e.lit.k, .int .i64 h.e.lit.n, .string h.e.lit.s, .slice h.A h.e.args.length h.c, .slice h.R h.e.rels.length h.d]) := Lib.hid ⟨thn (thn H0.out.2.2.2 hb2) hb3, by rw [hg3]; exact Blk.new w2 _ _⟩
  clear hb2 hh hok HCe hb3 h3
  unfold HE.val E.val
  go_upto_region 2 with fail
  change Code.wp _ _ _ _ (w2.alloc (.cells #[.int .i64 h.e.op, .int .i64 h.e.n, .int .i64 h.e.m, .int .i64 h.e.kind, .int .i64 h.e.lit.k, .int .i64 h.e.lit.n, .string h.e.lit.s, .slice h.A h.e.args.length h.c, .slice h.R h.e.rels.length h.d] 29))
  rw [← hg3]
  clear hg3
  generalize (w2.alloc (.cells #[.int .i64 h.e.op, .int .i64 h.e.n, .int .i64 h.e.m, .int .i64 h.e.kind, .int .i64 h.e.lit.k, .int .i64 h.e.lit.n, .string h.e.lit.s, .slice h.A h.e.args.length h.c, .slice h.R h.e.rels.length h.d] 29)) = w3 at *
  have HG : Hid (∀ W, Below w3.heap.size w3 W → GE W ∧ GS W) := Lib.hid fun W hb => ⟨(H0.out.2.1.thn H3.out.1).thn hb, (H0.out.2.2.1.thn H3.out.1).thn hb⟩
  clear H0
  have HAw : Hid (∀ W, Below w3.heap.size w3 W → Calls Tryz.prog 13 #[] W fun x w2 => x = .returned (.bool true) ∧ Below W.heap.size W w2) := Lib.hid fun W hb => awakeE_any W (HG.out W hb).1 (HG.out W hb).2
  have HEs : Hid (∀ W, Below w3.heap.size w3 W → EHas W h.e h.A h.R) := Lib.hid fun W hb => HX.out.1.below hb
  cases hf : formE h.e with
  | false =>
    have hck : ckE h.e = 30 := by
      rcases ckE_cases h.e with ⟨h1, _⟩ | ⟨_, h2⟩
      · rw [hf] at h1; cases h1
      · exact h2
    have hco : colS h.e = [] := by unfold colS; rw [if_neg (by rw [hf]; decide)]
    have hcn : cnjS h.e = [] := by unfold cnjS; rw [if_neg (by rw [hf]; decide)]
    have hst : strS h.e = ⟨#[]⟩ ∧ strF h.e = 30 := ⟨by unfold strS; rw [if_neg (fun h => by rw [hf] at h; cases h.1)], by unfold strF; rw [if_neg (by rw [hf]; decide)]⟩
    have HCo : Hid (∀ W, Below w3.heap.size w3 W → Calls Tryz.prog 8 #[.agg #[.int .i64 h.e.op, .int .i64 h.e.n, .int .i64 h.e.m, .int .i64 h.e.kind, .int .i64 h.e.lit.k, .int .i64 h.e.lit.n, .string h.e.lit.s, .slice h.A h.e.args.length h.c, .slice h.R h.e.rels.length h.d]] W fun x w' => ∃ (A' : Option Addr) (c' : Nat), x = .returned (.tuple #[.slice A' 0 c', .int .i64 30]) ∧ Below W.heap.size W w') := Lib.hid fun W hb => by
      have k := ColumnsP_any h.e h.A h.R h.c h.d W (HG.out W hb).2 (HEs.out W hb)
      rw [hco, hck] at k
      unfold E.val at k
      exact k.mono fun x w' ⟨A', c', h1, _, h2⟩ => ⟨A', c', h1, h2⟩
    have HCj : Hid (∀ W, Below w3.heap.size w3 W → Calls Tryz.prog 9 #[.agg #[.int .i64 h.e.op, .int .i64 h.e.n, .int .i64 h.e.m, .int .i64 h.e.kind, .int .i64 h.e.lit.k, .int .i64 h.e.lit.n, .string h.e.lit.s, .slice h.A h.e.args.length h.c, .slice h.R h.e.rels.length h.d]] W fun x w' => ∃ (A' : Option Addr) (c' : Nat), x = .returned (.tuple #[.slice A' 0 c', .int .i64 30]) ∧ Below W.heap.size W w') := Lib.hid fun W hb => by
      have k := ConjunctsP_any h.e h.A h.R h.c h.d W (HG.out W hb).2 (HEs.out W hb)
      rw [hcn, hck] at k
      unfold E.val at k
      exact k.mono fun x w' ⟨A', c', h1, _, h2⟩ => ⟨A', c', h1, h2⟩
    have HSt : Hid (∀ W, Below w3.heap.size w3 W → Calls Tryz.prog 10 #[.agg #[.int .i64 h.e.op, .int .i64 h.e.n, .int .i64 h.e.m, .int .i64 h.e.kind, .int .i64 h.e.lit.k, .int .i64 h.e.lit.n, .string h.e.lit.s, .slice h.A h.e.args.length h.c, .slice h.R h.e.rels.length h.d]] W fun x w' => x = .returned (.tuple #[.string ⟨#[]⟩, .int .i64 30]) ∧ Below W.heap.size W w') := Lib.hid fun W hb => by
      have k := StringP_any h.e h.A h.R h.c h.d W ⟨(HG.out W hb).1.g, (HG.out W hb).2⟩ (HEs.out W hb) HX.out.2
      rw [hst.1, hst.2] at k
      unfold E.val at k
      exact k
    have HFm : Hid (∀ W, Below w3.heap.size w3 W → Calls Tryz.prog 11 #[.agg #[.int .i64 h.e.op, .int .i64 h.e.n, .int .i64 h.e.m, .int .i64 h.e.kind, .int .i64 h.e.lit.k, .int .i64 h.e.lit.n, .string h.e.lit.s, .slice h.A h.e.args.length h.c, .slice h.R h.e.rels.length h.d]] W fun x w' => x = .returned (.bool false) ∧ Below W.heap.size W w') := Lib.hid fun W hb => by
      have k := Form_any h.e h.A h.R h.c h.d W (HEs.out W hb).n (HEs.out W hb).f (HEs.out W hb).a
      rw [hf] at k
      unfold E.val at k
      exact k
    have HCk : Hid (∀ W, Below w3.heap.size w3 W → Calls Tryz.prog 12 #[.agg #[.int .i64 h.e.op, .int .i64 h.e.n, .int .i64 h.e.m, .int .i64 h.e.kind, .int .i64 h.e.lit.k, .int .i64 h.e.lit.n, .string h.e.lit.s, .slice h.A h.e.args.length h.c, .slice h.R h.e.rels.length h.d]] W fun x w' => x = .returned (.int .i64 30) ∧ Below W.heap.size W w') := Lib.hid fun W hb => by
      have k := CheckE_any h.e h.A h.R h.c h.d W (HEs.out W hb).n (HEs.out W hb).f (HG.out W hb).2 (HEs.out W hb).a
      rw [hck] at k
      unfold E.val at k
      exact k
    clear hck hco hcn hst hf
    have HW : Hid (Below w3.heap.size w3 w3) := Lib.hid (Below.refl _ _)
    have hq := H3.out.2.below HW.out H3.out.2.lt
    have x0 := hq.cell 0
    have x1 := hq.cell 1
    have x2 := hq.cell 2
    have x3 := hq.cell 3
    have x4 := hq.cell 4
    have x5 := hq.cell 5
    have x6 := hq.cell 6
    have x7 := hq.cell 7
    have x8 := hq.cell 8
    simp only [List.getElem?_toArray, List.getElem?_cons_succ, List.getElem?_cons_zero] at x0 x1 x2 x3 x4 x5 x6 x7 x8
    clear hq
    go_wp2_with fail
    refine (HCo.out _ HW.out).mono ?_
    rintro x wn ⟨A4, c4, rfl, hbn⟩
    replace HW := Lib.hid (thn HW.out hbn)
    clear hbn
    clear x0 x1 x2 x3 x4 x5 x6 x7 x8
    have hq := H3.out.2.below HW.out H3.out.2.lt
    have x0 := hq.cell 0
    have x1 := hq.cell 1
    have x2 := hq.cell 2
    have x3 := hq.cell 3
    have x4 := hq.cell 4
    have x5 := hq.cell 5
    have x6 := hq.cell 6
    have x7 := hq.cell 7
    have x8 := hq.cell 8
    simp only [List.getElem?_toArray, List.getElem?_cons_succ, List.getElem?_cons_zero] at x0 x1 x2 x3 x4 x5 x6 x7 x8
    clear hq
    go_wp2_with fail
    refine (HCj.out _ HW.out).mono ?_
    rintro x wn ⟨A6, c6, rfl, hbn⟩
    replace HW := Lib.hid (thn HW.out hbn)
    clear hbn
    clear x0 x1 x2 x3 x4 x5 x6 x7 x8
    have hq := H3.out.2.below HW.out H3.out.2.lt
    have x0 := hq.cell 0
    have x1 := hq.cell 1
    have x2 := hq.cell 2
    have x3 := hq.cell 3
    have x4 := hq.cell 4
    have x5 := hq.cell 5
    have x6 := hq.cell 6
    have x7 := hq.cell 7
    have x8 := hq.cell 8
    simp only [List.getElem?_toArray, List.getElem?_cons_succ, List.getElem?_cons_zero] at x0 x1 x2 x3 x4 x5 x6 x7 x8
    clear hq
    go_wp2_with fail
    refine (HSt.out _ HW.out).mono ?_
    rintro x wn ⟨rfl, hbn⟩
    replace HW := Lib.hid (thn HW.out hbn)
    clear hbn
    clear x0 x1 x2 x3 x4 x5 x6 x7 x8
    have hq := H3.out.2.below HW.out H3.out.2.lt
    have x0 := hq.cell 0
    have x1 := hq.cell 1
    have x2 := hq.cell 2
    have x3 := hq.cell 3
    have x4 := hq.cell 4
    have x5 := hq.cell 5
    have x6 := hq.cell 6
    have x7 := hq.cell 7
    have x8 := hq.cell 8
    simp only [List.getElem?_toArray, List.getElem?_cons_succ, List.getElem?_cons_zero] at x0 x1 x2 x3 x4 x5 x6 x7 x8
    clear hq
    go_wp2_with fail
    refine (HFm.out _ HW.out).mono ?_
    rintro x wn ⟨rfl, hbn⟩
    replace HW := Lib.hid (thn HW.out hbn)
    clear hbn
    clear x0 x1 x2 x3 x4 x5 x6 x7 x8
    have hq := H3.out.2.below HW.out H3.out.2.lt
    have x0 := hq.cell 0
    have x1 := hq.cell 1
    have x2 := hq.cell 2
    have x3 := hq.cell 3
    have x4 := hq.cell 4
    have x5 := hq.cell 5
    have x6 := hq.cell 6
    have x7 := hq.cell 7
    have x8 := hq.cell 8
    simp only [List.getElem?_toArray, List.getElem?_cons_succ, List.getElem?_cons_zero] at x0 x1 x2 x3 x4 x5 x6 x7 x8
    clear hq
    go_wp2_with fail
    refine (HCk.out _ HW.out).mono ?_
    rintro x wn ⟨rfl, hbn⟩
    replace HW := Lib.hid (thn HW.out hbn)
    clear hbn
    clear x0 x1 x2 x3 x4 x5 x6 x7 x8
    go_wp2_with fail
    refine (HAw.out _ HW.out).mono ?_
    rintro x wn ⟨rfl, hbn⟩
    replace HW := Lib.hid (thn HW.out hbn)
    clear hbn
    go_wp2_with fail
    go_ret
    exact ⟨rfl, thn H3.out.1 HW.out⟩
  | true =>
    have hck : ckE h.e = 0 := by
      rcases ckE_cases h.e with ⟨_, h1⟩ | ⟨h2, _⟩
      · exact h1
      · rw [hf] at h2; cases h2
    have hsf := formE_iff.1 hf
    have hco : colS h.e = clmE h.e := if_pos hf
    have hcn : cnjS h.e = conjE h.e := if_pos hf
    obtain ⟨tx, htx⟩ : ∃ t : ByteArray, t = ⟨(strE h.e).toArray⟩ := ⟨_, rfl⟩
    have htl : tx.size = (strE h.e).length := by rw [htx]; rfl
    have htm : tx.size ≤ 1000000 := by have := strE_len 24 h.e hsf.1 HX.out.2; omega
    obtain ⟨sr, hsr⟩ : ∃ t, t = strS h.e := ⟨_, rfl⟩
    obtain ⟨sf, hsf2⟩ : ∃ t, t = strF h.e := ⟨_, rfl⟩
    have HSr : Hid (if tx.size ≤ 20000 then sr = tx ∧ sf = 0 else sr = ⟨#[]⟩ ∧ sf = 2) := Lib.hid (by
      rw [hsr, hsf2]
      unfold strS strF
      rw [htl]
      split
      · rename_i hle
        exact ⟨by rw [if_pos ⟨hf, hle⟩, htx], by first | rfl | (rw [if_pos hf, if_pos hle])⟩
      · rename_i hle
        exact ⟨by rw [if_neg (fun h => hle h.2)], by first | rfl | (rw [if_pos hf, if_neg hle])⟩)
    have hcl : (clmE h.e).length ≤ 100000 := by have := clmE_len h.e; omega
    have HNd : Hid (nodesE h.e ≤ 400) := Lib.hid hsf.2
    have HCo : Hid (∀ W, Below w3.heap.size w3 W → Calls Tryz.prog 8 #[.agg #[.int .i64 h.e.op, .int .i64 h.e.n, .int .i64 h.e.m, .int .i64 h.e.kind, .int .i64 h.e.lit.k, .int .i64 h.e.lit.n, .string h.e.lit.s, .slice h.A h.e.args.length h.c, .slice h.R h.e.rels.length h.d]] W fun x w' => ∃ (A' : Option Addr) (c' : Nat), x = .returned (.tuple #[.slice A' (clmE h.e).length c', .int .i64 0]) ∧ IRd w' (Lo w'.heap.size) A' (clmE h.e) ∧ Below W.heap.size W w') := Lib.hid fun W hb => by
      have k := ColumnsP_any h.e h.A h.R h.c h.d W (HG.out W hb).2 (HEs.out W hb)
      rw [hco, hck] at k
      unfold E.val at k
      exact k.mono fun x w' ⟨A', c', h1, h2, h3⟩ => ⟨A', c', h1, h2.kept (fun _ _ => rfl) fun b hb => hb.2, h3⟩
    have HCj : Hid (∀ W, Below w3.heap.size w3 W → Calls Tryz.prog 9 #[.agg #[.int .i64 h.e.op, .int .i64 h.e.n, .int .i64 h.e.m, .int .i64 h.e.kind, .int .i64 h.e.lit.k, .int .i64 h.e.lit.n, .string h.e.lit.s, .slice h.A h.e.args.length h.c, .slice h.R h.e.rels.length h.d]] W fun x w' => ∃ (A' : Option Addr) (c' : Nat), x = .returned (.tuple #[.slice A' (conjE h.e).length c', .int .i64 0]) ∧ LOk w' (Lo w'.heap.size) A' (conjE h.e) ∧ Below W.heap.size W w') := Lib.hid fun W hb => by
      have k := ConjunctsP_any h.e h.A h.R h.c h.d W (HG.out W hb).2 (HEs.out W hb)
      rw [hcn, hck] at k
      unfold E.val at k
      exact k.mono fun x w' ⟨A', c', h1, h2, h3⟩ => ⟨A', c', h1, h2.kept (fun _ _ => rfl) fun b hb => hb.2, h3⟩
    have HSt : Hid (∀ W, Below w3.heap.size w3 W → Calls Tryz.prog 10 #[.agg #[.int .i64 h.e.op, .int .i64 h.e.n, .int .i64 h.e.m, .int .i64 h.e.kind, .int .i64 h.e.lit.k, .int .i64 h.e.lit.n, .string h.e.lit.s, .slice h.A h.e.args.length h.c, .slice h.R h.e.rels.length h.d]] W fun x w' => x = .returned (.tuple #[.string sr, .int .i64 sf]) ∧ Below W.heap.size W w') := Lib.hid fun W hb => by
      have k := StringP_any h.e h.A h.R h.c h.d W ⟨(HG.out W hb).1.g, (HG.out W hb).2⟩ (HEs.out W hb) HX.out.2
      rw [← hsr, ← hsf2] at k
      unfold E.val at k
      exact k
    have HFm : Hid (∀ W, Below w3.heap.size w3 W → Calls Tryz.prog 11 #[.agg #[.int .i64 h.e.op, .int .i64 h.e.n, .int .i64 h.e.m, .int .i64 h.e.kind, .int .i64 h.e.lit.k, .int .i64 h.e.lit.n, .string h.e.lit.s, .slice h.A h.e.args.length h.c, .slice h.R h.e.rels.length h.d]] W fun x w' => x = .returned (.bool true) ∧ Below W.heap.size W w') := Lib.hid fun W hb => by
      have k := Form_any h.e h.A h.R h.c h.d W (HEs.out W hb).n (HEs.out W hb).f (HEs.out W hb).a
      rw [hf] at k
      unfold E.val at k
      exact k
    have HCk : Hid (∀ W, Below w3.heap.size w3 W → Calls Tryz.prog 12 #[.agg #[.int .i64 h.e.op, .int .i64 h.e.n, .int .i64 h.e.m, .int .i64 h.e.kind, .int .i64 h.e.lit.k, .int .i64 h.e.lit.n, .string h.e.lit.s, .slice h.A h.e.args.length h.c, .slice h.R h.e.rels.length h.d]] W fun x w' => x = .returned (.int .i64 0) ∧ Below W.heap.size W w') := Lib.hid fun W hb => by
      have k := CheckE_any h.e h.A h.R h.c h.d W (HEs.out W hb).n (HEs.out W hb).f (HG.out W hb).2 (HEs.out W hb).a
      rw [hck] at k
      unfold E.val at k
      exact k
    have HRj : Hid (∀ W, Below w3.heap.size w3 W → Calls Tryz.prog 14 #[.agg #[.int .i64 h.e.op, .int .i64 h.e.n, .int .i64 h.e.m, .int .i64 h.e.kind, .int .i64 h.e.lit.k, .int .i64 h.e.lit.n, .string h.e.lit.s, .slice h.A h.e.args.length h.c, .slice h.R h.e.rels.length h.d]] W fun x w' => ∃ (A' : Option Addr) (c' : Nat), x = .returned (.slice A' (conjE h.e).length c') ∧ LOk w' (Lo w'.heap.size) A' (conjE h.e) ∧ Below W.heap.size W w') := Lib.hid fun W hb => by
      have k := RConj_any W.heap.size 10000 h.e h.A h.R h.c h.d W (by omega) (Nat.le_refl _) (Nat.le_refl _) (HEs.out W hb).a (HEs.out W hb).r
      unfold E.val at k
      refine k.mono fun x w' ⟨A', c', hs, h1, h2, h3, h4, h5⟩ => ⟨A', c', ?_, ?_, h5⟩
      · rw [h2, ← h1, List.length_map]
      · rw [← h1]
        exact ((h3.mono fun b hb => hb.2).lok (P := Lo w'.heap.size) fun x hx => (h4 x hx).kept (fun _ _ => rfl) fun b hb => Nat.lt_of_lt_of_le hb h5.size)
    have HRs : Hid (∀ W, Below w3.heap.size w3 W → Calls Tryz.prog 16 #[.agg #[.int .i64 h.e.op, .int .i64 h.e.n, .int .i64 h.e.m, .int .i64 h.e.kind, .int .i64 h.e.lit.k, .int .i64 h.e.lit.n, .string h.e.lit.s, .slice h.A h.e.args.length h.c, .slice h.R h.e.rels.length h.d]] W fun x w' => x = .returned (.string tx) ∧ Below W.heap.size W w') := Lib.hid fun W hb => by
      have k := RString_any 1000 24 h.e h.A h.R h.c h.d W (by omega) (Nat.le_refl _) HX.out.2 hsf.1 (HEs.out W hb).a
      rw [← htx] at k
      unfold E.val at k
      exact k
    have HRc : Hid (∀ W, Below w3.heap.size w3 W → Calls Tryz.prog 18 #[.agg #[.int .i64 h.e.op, .int .i64 h.e.n, .int .i64 h.e.m, .int .i64 h.e.kind, .int .i64 h.e.lit.k, .int .i64 h.e.lit.n, .string h.e.lit.s, .slice h.A h.e.args.length h.c, .slice h.R h.e.rels.length h.d]] W fun x w' => ∃ (A' : Option Addr) (c' : Nat), x = .returned (.slice A' (clmE h.e).length c') ∧ IRd w' (Lo w'.heap.size) A' (clmE h.e) ∧ Below W.heap.size W w') := Lib.hid fun W hb => by
      have k := RColumns_any 10000 24 h.e h.A h.R h.c h.d W (by omega) (Nat.le_refl _) hsf.1 (HEs.out W hb).a
      unfold E.val at k
      exact k.mono fun x w' ⟨A', c', h1, h2, h3⟩ => ⟨A', c', h1, h2.kept (fun _ _ => rfl) fun b hb => hb.2, h3⟩
    have HNc : Hid (∀ x ∈ conjE h.e, nodesE x < 1000) := Lib.hid fun x hx => by have := conjE_nodes h.e x hx; omega
    have hcln : (conjE h.e).length ≤ 100000 := by have := conjE_len h.e; omega
    have hlq : ((conjE h.e).length == (conjE h.e).length) = true := beq_self_eq_true _
    have hlqi : (((conjE h.e).length : Int) == ((conjE h.e).length : Int)) = true := beq_self_eq_true _
    clear hck hco hcn hf hsf htx htl hsr hsf2
    generalize clmE h.e = cm at *
    generalize conjE h.e = cj at *
    have HW : Hid (Below w3.heap.size w3 w3) := Lib.hid (Below.refl _ _)
    have hq := H3.out.2.below HW.out H3.out.2.lt
    have x0 := hq.cell 0
    have x1 := hq.cell 1
    have x2 := hq.cell 2
    have x3 := hq.cell 3
    have x4 := hq.cell 4
    have x5 := hq.cell 5
    have x6 := hq.cell 6
    have x7 := hq.cell 7
    have x8 := hq.cell 8
    simp only [List.getElem?_toArray, List.getElem?_cons_succ, List.getElem?_cons_zero] at x0 x1 x2 x3 x4 x5 x6 x7 x8
    clear hq
    go_wp2_with fail
    refine (HCo.out _ HW.out).mono ?_
    rintro x wn ⟨A4, c4, rfl, hI4, hbn⟩
    have HI4 : Hid (IRd wn (Lo wn.heap.size) A4 cm) := Lib.hid hI4
    clear hI4
    replace HW := Lib.hid (thn HW.out hbn)
    clear hbn
    clear x0 x1 x2 x3 x4 x5 x6 x7 x8
    have hq := H3.out.2.below HW.out H3.out.2.lt
    have x0 := hq.cell 0
    have x1 := hq.cell 1
    have x2 := hq.cell 2
    have x3 := hq.cell 3
    have x4 := hq.cell 4
    have x5 := hq.cell 5
    have x6 := hq.cell 6
    have x7 := hq.cell 7
    have x8 := hq.cell 8
    simp only [List.getElem?_toArray, List.getElem?_cons_succ, List.getElem?_cons_zero] at x0 x1 x2 x3 x4 x5 x6 x7 x8
    clear hq
    go_wp2_with fail
    refine (HCj.out _ HW.out).mono ?_
    rintro x wn ⟨A6, c6, rfl, hL6, hbn⟩
    replace HI4 : Hid (IRd wn (Lo wn.heap.size) A4 cm) := Lib.hid (HI4.out.kept (fun b hb => hbn.block b hb) fun b hb => Nat.lt_of_lt_of_le hb hbn.size)
    have HL6 : Hid (LOk wn (Lo wn.heap.size) A6 cj) := Lib.hid hL6
    clear hL6
    replace HW := Lib.hid (thn HW.out hbn)
    clear hbn
    clear x0 x1 x2 x3 x4 x5 x6 x7 x8
    have hq := H3.out.2.below HW.out H3.out.2.lt
    have x0 := hq.cell 0
    have x1 := hq.cell 1
    have x2 := hq.cell 2
    have x3 := hq.cell 3
    have x4 := hq.cell 4
    have x5 := hq.cell 5
    have x6 := hq.cell 6
    have x7 := hq.cell 7
    have x8 := hq.cell 8
    simp only [List.getElem?_toArray, List.getElem?_cons_succ, List.getElem?_cons_zero] at x0 x1 x2 x3 x4 x5 x6 x7 x8
    clear hq
    go_wp2_with fail
    refine (HSt.out _ HW.out).mono ?_
    rintro x wn ⟨rfl, hbn⟩
    replace HI4 : Hid (IRd wn (Lo wn.heap.size) A4 cm) := Lib.hid (HI4.out.kept (fun b hb => hbn.block b hb) fun b hb => Nat.lt_of_lt_of_le hb hbn.size)
    replace HL6 : Hid (LOk wn (Lo wn.heap.size) A6 cj) := Lib.hid (HL6.out.below hbn hbn.size)
    replace HW := Lib.hid (thn HW.out hbn)
    clear hbn
    clear x0 x1 x2 x3 x4 x5 x6 x7 x8
    have hq := H3.out.2.below HW.out H3.out.2.lt
    have x0 := hq.cell 0
    have x1 := hq.cell 1
    have x2 := hq.cell 2
    have x3 := hq.cell 3
    have x4 := hq.cell 4
    have x5 := hq.cell 5
    have x6 := hq.cell 6
    have x7 := hq.cell 7
    have x8 := hq.cell 8
    simp only [List.getElem?_toArray, List.getElem?_cons_succ, List.getElem?_cons_zero] at x0 x1 x2 x3 x4 x5 x6 x7 x8
    clear hq
    go_wp2_with fail
    refine (HFm.out _ HW.out).mono ?_
    rintro x wn ⟨rfl, hbn⟩
    replace HI4 : Hid (IRd wn (Lo wn.heap.size) A4 cm) := Lib.hid (HI4.out.kept (fun b hb => hbn.block b hb) fun b hb => Nat.lt_of_lt_of_le hb hbn.size)
    replace HL6 : Hid (LOk wn (Lo wn.heap.size) A6 cj) := Lib.hid (HL6.out.below hbn hbn.size)
    replace HW := Lib.hid (thn HW.out hbn)
    clear hbn
    clear x0 x1 x2 x3 x4 x5 x6 x7 x8
    have hq := H3.out.2.below HW.out H3.out.2.lt
    have x0 := hq.cell 0
    have x1 := hq.cell 1
    have x2 := hq.cell 2
    have x3 := hq.cell 3
    have x4 := hq.cell 4
    have x5 := hq.cell 5
    have x6 := hq.cell 6
    have x7 := hq.cell 7
    have x8 := hq.cell 8
    simp only [List.getElem?_toArray, List.getElem?_cons_succ, List.getElem?_cons_zero] at x0 x1 x2 x3 x4 x5 x6 x7 x8
    clear hq
    go_wp2_with fail
    refine (HRj.out _ HW.out).mono ?_
    rintro x wn ⟨A10, c10, rfl, hL10, hbn⟩
    replace HI4 : Hid (IRd wn (Lo wn.heap.size) A4 cm) := Lib.hid (HI4.out.kept (fun b hb => hbn.block b hb) fun b hb => Nat.lt_of_lt_of_le hb hbn.size)
    replace HL6 : Hid (LOk wn (Lo wn.heap.size) A6 cj) := Lib.hid (HL6.out.below hbn hbn.size)
    have HL10 : Hid (LOk wn (Lo wn.heap.size) A10 cj) := Lib.hid hL10
    clear hL10
    replace HW := Lib.hid (thn HW.out hbn)
    clear hbn
    clear x0 x1 x2 x3 x4 x5 x6 x7 x8
    go_wp2_with fail
    go_loopw [11] (fun iv wr => ∃ k : Nat, k ≤ cj.length ∧ iv = .int .i64 k ∧ Hid (Below wn.heap.size wn wr)) (fun iv _ => cj.length - (intOf iv).toNat)
    case atStart => exact ⟨0, Nat.zero_le _, rfl, Below.refl _ _⟩
    case round =>
      obtain ⟨k, hk, rfl, HB⟩ := hrel
      by_cases hlt : k < cj.length
      · have hlti : (k : Int) < (cj.length : Int) := by omega
        have hk0 : (0 : Int) ≤ (k : Int) := by omega
        obtain ⟨b6, o6, A6', c6', R6, d6, rfl, hL1, hx⟩ := (HL6.out.below HB.out HB.out.size).aft hlt
        obtain ⟨b7, o7, A7', c7', R7, d7, rfl, hL2, hy⟩ := (HL10.out.below HB.out HB.out.size).aft hlt
        have X0 := fun x : Aft wr => (hx x).1
        have X1 := fun x : Aft wr => (hx x).2.1
        have X2 := fun x : Aft wr => (hx x).2.2.1
        have X3 := fun x : Aft wr => (hx x).2.2.2.1
        have X4 := fun x : Aft wr => (hx x).2.2.2.2.1
        have X5 := fun x : Aft wr => (hx x).2.2.2.2.2.1
        have X6 := fun x : Aft wr => (hx x).2.2.2.2.2.2.1
        have X7 := fun x : Aft wr => (hx x).2.2.2.2.2.2.2.1
        have X8 := fun x : Aft wr => (hx x).2.2.2.2.2.2.2.2
        have Y0 := fun x : Aft wr => (hy x).1
        have Y1 := fun x : Aft wr => (hy x).2.1
        have Y2 := fun x : Aft wr => (hy x).2.2.1
        have Y3 := fun x : Aft wr => (hy x).2.2.2.1
        have Y4 := fun x : Aft wr => (hy x).2.2.2.2.1
        have Y5 := fun x : Aft wr => (hy x).2.2.2.2.2.1
        have Y6 := fun x : Aft wr => (hy x).2.2.2.2.2.2.1
        have Y7 := fun x : Aft wr => (hy x).2.2.2.2.2.2.2.1
        have Y8 := fun x : Aft wr => (hy x).2.2.2.2.2.2.2.2
        have hnk := HNc.out cj[k] (List.getElem_mem hlt)
        have HSm : Hid (∀ x : Aft wr, Calls Tryz.prog 15 #[cj[k].val A6' c6' R6 d6, cj[k].val A7' c7' R7 d7] x.w fun y w' => y = .returned (.bool true) ∧ Below x.w.heap.size x.w w') := Lib.hid fun x => by
          have q := RSame_any 1000000 cj[k] cj[k] A6' R6 c6' d6 A7' R7 c7' d7 x.w (by omega) (Nat.le_refl _) (hL1.below x.h x.h.size) (hL2.below x.h x.h.size)
          rw [sameE_self] at q
          exact q
        clear hx hy hL1 hL2 hnk
        generalize cj[k] = ci at *
        unfold E.val at HSm
        go_wp2_with fail
        refine region_aft (by kernel_rfl) (by kernel_rfl) ?_
        repeat (go_big_quiet_step ((with_reducible exact aft_call (HSm.out _))))
        refine wpQuiet_nil ?_
        intro x9
        have HZ9 := Lib.hid (thn HB.out x9.h)
        clear X0 X1 X2 X3 X4 X5 X6 X7 X8 Y0 Y1 Y2 Y3 Y4 Y5 Y6 Y7 Y8 HSm
        go_wp2_with fail
        go_roundw
        case rel => exact ⟨k + 1, by omega, by go_num, HZ9.out⟩
        case measure => simp [intOf]; omega
      · have hlf : decide ((k : Int) < (cj.length : Int)) = false := decide_eq_false (by omega)
        have HWr : Hid (Below w3.heap.size w3 wr) := Lib.hid (thn HW.out HB.out)
        have HIr : Hid (IRd wr (Lo wr.heap.size) A4 cm) := Lib.hid (HI4.out.kept (fun b hb => HB.out.block b hb) fun b hb => Nat.lt_of_lt_of_le hb HB.out.size)
        clear HW HI4 HL6 HL10 HB HNc
        have hq := H3.out.2.below HWr.out H3.out.2.lt
        have x0 := hq.cell 0
        have x1 := hq.cell 1
        have x2 := hq.cell 2
        have x3 := hq.cell 3
        have x4 := hq.cell 4
        have x5 := hq.cell 5
        have x6 := hq.cell 6
        have x7 := hq.cell 7
        have x8 := hq.cell 8
        simp only [List.getElem?_toArray, List.getElem?_cons_succ, List.getElem?_cons_zero] at x0 x1 x2 x3 x4 x5 x6 x7 x8
        clear hq
        go_wp2_with fail
        refine (HRs.out _ HWr.out).mono ?_
        rintro x ws ⟨rfl, hbn⟩
        have HWs : Hid (Below w3.heap.size w3 ws) := Lib.hid (thn HWr.out hbn)
        have HIs : Hid (IRd ws (Lo ws.heap.size) A4 cm) := Lib.hid (HIr.out.kept (fun b hb => hbn.block b hb) fun b hb => Nat.lt_of_lt_of_le hb hbn.size)
        clear hbn HWr HIr HRs x0 x1 x2 x3 x4 x5 x6 x7 x8
        have hq := H3.out.2.below HWs.out H3.out.2.lt
        have x0 := hq.cell 0
        have x1 := hq.cell 1
        have x2 := hq.cell 2
        have x3 := hq.cell 3
        have x4 := hq.cell 4
        have x5 := hq.cell 5
        have x6 := hq.cell 6
        have x7 := hq.cell 7
        have x8 := hq.cell 8
        simp only [List.getElem?_toArray, List.getElem?_cons_succ, List.getElem?_cons_zero] at x0 x1 x2 x3 x4 x5 x6 x7 x8
        clear hq
        have key : ∀ W : World, Below ws.heap.size ws W → Below w3.heap.size w3 W := fun W hb => thn HWs.out hb
        by_cases hle : tx.size ≤ 20000
        · have h1 := HSr.out
          rw [if_pos hle] at h1
          obtain ⟨rfl, rfl⟩ := h1
          have hli : ¬ ((20000 : Int) < (sr.size : Int)) := by omega
          clear hle
          clear HSr
          go_wp2_with fail
          refine (HCk.out _ HWs.out).mono ?_
          rintro x wt ⟨rfl, hbn⟩
          have HWt : Hid (Below w3.heap.size w3 wt) := Lib.hid (thn HWs.out hbn)
          have HIt : Hid (IRd wt (Lo wt.heap.size) A4 cm) := Lib.hid (HIs.out.kept (fun b hb => hbn.block b hb) fun b hb => Nat.lt_of_lt_of_le hb hbn.size)
          clear hbn x0 x1 x2 x3 x4 x5 x6 x7 x8
          have hq := H3.out.2.below HWt.out H3.out.2.lt
          have x0 := hq.cell 0
          have x1 := hq.cell 1
          have x2 := hq.cell 2
          have x3 := hq.cell 3
          have x4 := hq.cell 4
          have x5 := hq.cell 5
          have x6 := hq.cell 6
          have x7 := hq.cell 7
          have x8 := hq.cell 8
          simp only [List.getElem?_toArray, List.getElem?_cons_succ, List.getElem?_cons_zero] at x0 x1 x2 x3 x4 x5 x6 x7 x8
          clear hq
          go_wp2_with fail
          refine (HRc.out _ HWt.out).mono ?_
          rintro x wu ⟨Au, cu, rfl, hIu, hbn⟩
          have HIn := Lib.hid (ints_same A4 Au c4 cu cm wu (HIt.out.kept (fun b hb => hbn.block b hb) fun b hb => Nat.lt_of_lt_of_le hb hbn.size) hIu hcl)
          have HWu : Hid (Below w3.heap.size w3 wu) := Lib.hid (thn HWt.out hbn)
          clear hbn hIu x0 x1 x2 x3 x4 x5 x6 x7 x8
          go_wp2_with fail
          refine HIn.out.mono ?_
          rintro x wv ⟨rfl, hbn⟩
          have HWv : Hid (Below w3.heap.size w3 wv) := Lib.hid (thn HWu.out hbn)
          clear hbn
          go_wp2_with fail
          refine (HAw.out _ HWv.out).mono ?_
          rintro x wx ⟨rfl, hbn⟩
          have HWx : Hid (Below w3.heap.size w3 wx) := Lib.hid (thn HWv.out hbn)
          clear hbn
          go_wp2_with fail
          go_ret
          exact ⟨rfl, thn H3.out.1 HWx.out⟩
        · have h1 := HSr.out
          rw [if_neg hle] at h1
          obtain ⟨rfl, rfl⟩ := h1
          have hli : ((20000 : Int) < (tx.size : Int)) := by omega
          clear hle
          clear HSr
          go_wp2_with fail
          refine (HCk.out _ HWs.out).mono ?_
          rintro x wt ⟨rfl, hbn⟩
          have HWt : Hid (Below w3.heap.size w3 wt) := Lib.hid (thn HWs.out hbn)
          have HIt : Hid (IRd wt (Lo wt.heap.size) A4 cm) := Lib.hid (HIs.out.kept (fun b hb => hbn.block b hb) fun b hb => Nat.lt_of_lt_of_le hb hbn.size)
          clear hbn x0 x1 x2 x3 x4 x5 x6 x7 x8
          have hq := H3.out.2.below HWt.out H3.out.2.lt
          have x0 := hq.cell 0
          have x1 := hq.cell 1
          have x2 := hq.cell 2
          have x3 := hq.cell 3
          have x4 := hq.cell 4
          have x5 := hq.cell 5
          have x6 := hq.cell 6
          have x7 := hq.cell 7
          have x8 := hq.cell 8
          simp only [List.getElem?_toArray, List.getElem?_cons_succ, List.getElem?_cons_zero] at x0 x1 x2 x3 x4 x5 x6 x7 x8
          clear hq
          go_wp2_with fail
          refine (HRc.out _ HWt.out).mono ?_
          rintro x wu ⟨Au, cu, rfl, hIu, hbn⟩
          have HIn := Lib.hid (ints_same A4 Au c4 cu cm wu (HIt.out.kept (fun b hb => hbn.block b hb) fun b hb => Nat.lt_of_lt_of_le hb hbn.size) hIu hcl)
          have HWu : Hid (Below w3.heap.size w3 wu) := Lib.hid (thn HWt.out hbn)
          clear hbn hIu x0 x1 x2 x3 x4 x5 x6 x7 x8
          go_wp2_with fail
          refine HIn.out.mono ?_
          rintro x wv ⟨rfl, hbn⟩
          have HWv : Hid (Below w3.heap.size w3 wv) := Lib.hid (thn HWu.out hbn)
          clear hbn
          go_wp2_with fail
          refine (HAw.out _ HWv.out).mono ?_
          rintro x wx ⟨rfl, hbn⟩
          have HWx : Hid (Below w3.heap.size w3 wx) := Lib.hid (thn HWv.out hbn)
          clear hbn
          go_wp2_with fail
          go_ret
          exact ⟨rfl, thn H3.out.1 HWx.out⟩
end Go.Proofs.YtcbcncaoabablaaGreatDoor
