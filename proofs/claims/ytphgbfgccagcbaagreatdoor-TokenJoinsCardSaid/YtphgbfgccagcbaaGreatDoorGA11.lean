/-
  PkT: CONTRACT of package token's Tokens.
  TokQ: CONTRACT of the statements' awake.
-/
import Derived.Test.YtphgbfgccagcbaaGreatDoorPkK
import Derived.Test.YtphgbfgccagcbaaGreatDoorGrow
import Derived.Test.YtphgbfgccagcbaaGreatDoorReg
import Derived.Test.YtphgbfgccagcbaaGreatDoorGA07
import Derived.Test.YtphgbfgccagcbaaGreatDoorGA09
import Derived.Test.YtphgbfgccagcbaaGreatDoorGA10
namespace Go.Proofs.YtphgbfgccagcbaaGreatDoor
open Go.RowKit Go.Shelf
attribute [local go_sem] Oper.semAt_some

theorem tokensP_any (s : ByteArray) (w : World) :
    Calls Tryz.prog 19 #[.string s] w fun e w' => e = .returned (.func (.func 29) #[] #[.pointer (some ⟨w.heap.size, 0, none⟩)]) ∧ w' = w.alloc (.cells #[.string s] 9) := by
  go_enter Tryz.func19, Tryz.ntmps19
  go_wp2
  go_ret
  exact ⟨rfl, rfl⟩
theorem toks_stops (n : Nat) (bl : Nat) (s : ByteArray) (hs : s.size ≤ 4000)
    (Kp : World → World → Prop) (Fc : World → Prop) (hFR : ∀ W, Fc W → TokF s bl W) (hFK : ∀ W W', Kp W W' → Fc W → Fc W') (hFB : ∀ W W', Below W.heap.size W W' → Fc W → Fc W') (hKW : ∀ W W', Kp W W' → KeepsWalks W W') (w : World) (hF : Fc w) :
    SeqStopsK Fence.wide n Tryz.prog 29 #[.pointer (some ⟨bl, 0, none⟩)] encT Kp (SAll s) (SPart s) (s.size + 1) w :=
  fun l J Jx W hW hJ _ hY h0 => toks1_in n l bl s hs Kp Fc hFR hFK hFB hKW J Jx (fun pre W1 W2 h1 h2 => hJ pre W1 W2 none h1 h2 (fun r e => by cases e)) hY W (hFB _ _ hW hF) h0
theorem infoTp : (Tryz.prog.info? 36).map (fun i => (i.zero, i.size, i.bytes)) = some (some (.agg #[.int .i64 0, .string ⟨#[]⟩, .int .i64 0]), 3, 32) := by kernel_rfl
/-- what Tokens says of a string -/
def PToks (w w' : World) (s : ByteArray) (e : Ending) : Prop :=
  ∃ v ts r, e = .returned (.tuple #[v, .int .i64 r]) ∧ OutTk w w' 36 v (ts.map toTk) ∧
    ((4000 < s.size ∧ r = 2 ∧ ts = []) ∨ (s.size ≤ 4000 ∧ tkB 0 s.data.toList = none ∧ r = 80 ∧ ts = []) ∨ (s.size ≤ 4000 ∧ tkB 0 s.data.toList = some ts ∧ r = 0))
theorem outTk_nil (w w' : World) (T : TypeId) : OutTk w w' T (.slice none 0 0) [] := World.ownsRow_nil _ _ _ _
/-- a block of cells stands, whatever block that is none turns -/
theorem blk_own {W W' : World} {g : Nat} {T : TypeId} {cs : Array Value} {row : Option Nat} (h : Blk W g T cs) (hg : W.grownBy W' row) (hr : ∀ r, row = some r → ∃ o : Obj, W.heap[r]? = some o ∧ o.isCells = false) : Blk W' g T cs :=
  h.grown hg (fun e => by
    obtain ⟨o, ho, hc⟩ := hr _ e.symm
    have h' : W.heap[g]? = _ := h
    rw [h'] at ho
    injection ho with ho
    subst ho
    cases hc)
theorem row_own {W W' : World} {base : Nat} {T : TypeId} {c n : Nat} {v : Value} {xs : List Value} {row : Option Nat} (h : W.ownsRow base T c v n xs) (hg : W.grownBy W' row) (hr : ∀ r, row = some r → ∃ o : Obj, W.heap[r]? = some o ∧ o.isCells = false) : W'.ownsRow base T c v n xs := by
  refine h.kept hg ?_
  cases hv : v.ownBlock with
  | none => exact .inl rfl
  | some k =>
    refine .inr fun e => ?_
    obtain ⟨o, ho, hoc⟩ := hr k e.symm
    rcases h.2 with ⟨rfl, _⟩ | ⟨b, cap, cur, rfl, _, hh, _⟩
    · cases hv
    · injection hv with hv
      have hv : b = k := hv
      subst hv
      rw [ho] at hh
      injection hh with hh
      subst hh
      cases hoc

theorem own_weakerT {w : World} {base base' : Nat} {e : TypeId} {size n : Nat} {v : Value} {xs : List Value} (h : w.ownsRow base e size v n xs) (hb : base' ≤ base) : w.ownsRow base' e size v n xs :=
  ⟨h.1, h.2.imp id fun ⟨g, cap, cur, a, b, c⟩ => ⟨g, cap, cur, a, Nat.le_trans hb b, c⟩⟩
set_option maxRecDepth 100000 in
set_option maxHeartbeats 4000000 in
theorem PTokens_any (s : ByteArray) (w : World) (hG : GT w) (hs : s.size ≤ 20000) :
    Calls Tryz.prog 7 #[.string s] w fun e w' => PToks w w' s e ∧ Below w.heap.size w w' := by
  have HG := Lib.hid hG
  have hbig := hG.e.g.big
  clear hG
  by_cases h4 : 4000 < s.size
  · have h4i : decide ((4000 : Int) < (s.size : Int)) = true := decide_eq_true (by omega)
    have HE : Hid (PToks w ((w.alloc (.cells #[.slice none 0 0] 22)).alloc (.cells #[.int .i64 2] 23)) s (.returned (.tuple #[.slice none 0 0, .int .i64 2]))) := Lib.hid ⟨_, [], _, rfl, outTk_nil _ _ _, .inl ⟨h4, rfl, rfl⟩⟩
    go_enter Tryz.func7, Tryz.ntmps7
    go_wp2_with fail
    have k1 := Blk.new (w.alloc (.cells #[.slice none 0 0] 22)) 23 #[.int .i64 2]
    have k0 := (Blk.new w 22 #[.slice none 0 0]).alloc (.cells #[.int .i64 2] 23)
    rw [World.size_alloc] at k1
    have q0 := k0.cell 0
    have q1 := k1.cell 0
    exact bodyPost_ret (v := .tuple #[.slice none 0 0, .int .i64 2]) (by simp [results, Tryz.results7, go_sem, q0, q1]) rfl ⟨HE.out, al (al (Below.refl _ _) _) _⟩
  · have h4i : decide ((4000 : Int) < (s.size : Int)) = false := decide_eq_false (by omega)
    refine (callsIn_wide (n := 3)).1 ?_
    refine callsIn_of_wp_marks Tryz.func7 rfl trivial ?_ rfl
    simp only [Tryz.ntmps7, List.size_toArray, List.length_cons, List.length_nil, Nat.reduceAdd, Nat.reduceSub, Array.replicate_succ, Array.replicate_zero, List.push_toArray, List.append_toArray, List.nil_append, List.cons_append]
    gi_wp2
    refine ⟨trivial, (callsIn_wide.2 (tokensP_any _ _)).mono ?_⟩
    rintro e w3 ⟨rfl, rfl⟩
    gi_wp2
    obtain ⟨w4, hw4⟩ : ∃ W, W = (((w.alloc (.cells #[.slice none 0 0] 22)).alloc (.cells #[.int .i64 0] 23)).alloc (.cells #[.slice none 0 0] 22)).alloc (.cells #[.string s] 9) := ⟨_, rfl⟩
    have hs4 : w4.heap.size = w.heap.size + 4 := by rw [hw4]; simp
    have hb4 : Below w.heap.size w w4 := by rw [hw4]; exact al (al (al (al (Below.refl _ _) _) _) _) _
    have b0 : Blk w4 w.heap.size 22 #[.slice none 0 0] := by
      rw [hw4]; exact (((Blk.new w _ _).alloc _).alloc _).alloc _
    have b1 : Blk w4 (w.heap.size + 1) 23 #[.int .i64 0] := by
      rw [hw4]; exact ((Blk.new' (by simp)).alloc _).alloc _
    have b2 : Blk w4 (w.heap.size + 2) 22 #[.slice none 0 0] := by
      rw [hw4]; exact (Blk.new' (by simp)).alloc _
    have b3 : Blk w4 (w.heap.size + 3) 9 #[.string s] := by
      rw [hw4]; exact Blk.new' (by simp)
    have G4 := HG.out.thn hb4
    have H4 := Lib.hid (And.intro b0 (And.intro b1 (And.intro b2 (And.intro b3 (And.intro G4 hb4)))))
    rw [← hw4]
    clear hw4 b0 b1 b2 b3 G4 hb4 HG
    have hKF : ∀ W, Kp0 w4.heap.size (w.heap.size + 2) w4 W → TokF s (w.heap.size + 3) W := fun W hk =>
      ⟨by rw [hk.cell (by omega) (by omega)]; exact H4.out.2.2.2.1.cell 0, H4.out.2.2.2.2.1.below (hk.low (by omega)) (by omega)⟩
    refine wpIn_rangeFunc_ownH rfl (by decide) (gf := 29) (lb := #[.pointer (some ⟨w.heap.size + 3, 0, none⟩)]) rfl trivial (enters_of Tryz.func29 (by kernel_rfl) rfl)
      (toks_stops (3 - 1) (w.heap.size + 3) s (by omega) (fun X Y => Kp0 w4.heap.size (w.heap.size + 2) X Y ∧ KeepsWalks X Y) (fun W => Kp0 w4.heap.size (w.heap.size + 2) w4 W) hKF
        (fun W W' h k => k.trans h.1) (fun W W' hb k => k.trans (Kp0.of_below hb k.2.2.2.1)) (fun W W' h => h.2) w4 (Kp0.refl _ _ _))
      (fun h k => ⟨h.1.trans k.1, h.2.trans k.2⟩) (fun W l o o' hl ho hc hw => ⟨Kp0.put W l o' hl, KeepsWalks.putObj _ ho hw⟩) (Below.refl _ _) (fun _ => rfl)
      (fun pre W => ∃ v, Blk W (w.heap.size + 2) 22 #[v] ∧ W.ownsRow w4.heap.size 36 3 v pre.length (tcells (pre.map toTk)) ∧ Kp0 w4.heap.size (w.heap.size + 2) w4 W ∧ ∀ x ∈ pre, x.1 ≠ 0)
      (fun c pre W => c = .ret ∧ Blk W w.heap.size 22 #[.slice none 0 0] ∧ Blk W (w.heap.size + 1) 23 #[.int .i64 80] ∧ Below w.heap.size w W ∧ ∃ x ∈ pre, x.1 = 0)
      ?hI ?hIx ?h0
      (fun x a' W => ∃ Bx, w4.heap.size ≤ Bx ∧ Blk W Bx 36 #[.int .i64 x.1, .string ⟨x.2.1.toArray⟩, .int .i64 x.2.2] ∧ a' = { tmps := #[.string s, undef, .pointer (some ⟨w.heap.size, 0, none⟩), .pointer (some ⟨w.heap.size + 1, 0, none⟩), .pointer (some ⟨w.heap.size + 2, 0, none⟩), .pointer (some ⟨Bx, 0, none⟩), .string s, .int .i64 s.size, .bool false, .string s, .func (.func 29) #[] #[.pointer (some ⟨w.heap.size + 3, 0, none⟩)], .agg #[.int .i64 x.1, .string ⟨x.2.1.toArray⟩, .int .i64 x.2.2], undef, undef, undef, undef, undef, undef, undef, undef], defers := [] })
      ?hAx ?assign ?body ?done ?stop
    case hI =>
      rintro pre W W' row ⟨v, h1, h2, h3, h4⟩ hgr hrow
      exact ⟨v, blk_own h1 hgr (fun r e => (hrow r e).2), row_own h2 hgr (fun r e => (hrow r e).2), h3.trans (Kp0.grown hgr h3.2.2.2.1 fun r e => (hrow r e).1), h4⟩
    case hIx =>
      rintro c pre W W' row ⟨h1, h2, h3, h4, h5⟩ hgr hrow
      exact ⟨h1, blk_own h2 hgr (fun r e => (hrow r e).2), blk_own h3 hgr (fun r e => (hrow r e).2), h4.grown hgr h4.size (fun r e => by have := (hrow r e).1; omega), h5⟩
    case h0 => exact ⟨.slice none 0 0, H4.out.2.2.1, World.ownsRow_nil _ _ _ _, Kp0.refl _ _ _, fun x hx => (by cases hx)⟩
    case hAx =>
      rintro x a' _ W W' row ⟨Bx, h1, h2, h3⟩ hgr hrow
      exact ⟨Bx, h1, blk_own h2 hgr (fun r e => (hrow r e).2), h3⟩
    case assign =>
      rintro l pre x W K ⟨v, h1, h2, h3, h4⟩ hK
      have HI := Lib.hid (And.intro h1 (And.intro h2 (And.intro h3 h4)))
      have HK := Lib.hid hK
      clear h1 h2 h3 h4 hK
      unfold encT
      gi_wp2
      refine HK.out _ _ ((KeepsOthers.alloc _ _).from _) ⟨Kp0.of_below (al (Below.refl _ _) _) HI.out.2.2.1.2.2.2.1, KeepsWalks.alloc _ _⟩ ⟨v, HI.out.1.alloc _, HI.out.2.1.alloc _, HI.out.2.2.1.trans (Kp0.of_below (al (Below.refl _ _) _) HI.out.2.2.1.2.2.2.1), HI.out.2.2.2⟩ ⟨W.heap.size, HI.out.2.2.1.2.2.2.1, Blk.new _ _ _, rfl⟩
    case body =>
      rintro l pre x a' W hl hlr ⟨v, h1, h2, h3, h4⟩ ⟨Bx, hB, hX, rfl⟩ hlen
      have HI := Lib.hid (And.intro h1 (And.intro h2 (And.intro h3 (And.intro h4 hX))))
      obtain ⟨xk, xt, xa⟩ := x
      have hW4 : w4.heap.size ≤ W.heap.size := h3.2.2.2.1
      obtain ⟨⟨x0, x1, x2⟩, xf⟩ := hX.three
      have hBl := hX.lt
      have HT : Hid (toTk (xk, xt, xa) = ⟨xk, ⟨xt.toArray⟩, xa⟩) := Lib.hid rfl
      dsimp only at x0 x1 x2 ⊢
      generalize (⟨xt.toArray⟩ : ByteArray) = t at *
      by_cases hk : xk = 0
      · have k0 := h3.blk (by omega) (by omega) H4.out.1
        have k1 := h3.blk (by omega) (by omega) H4.out.2.1
        have HW : Hid (KeepsFrom w4.heap.size W ((W.setCell ⟨w.heap.size, 0, none⟩ (.slice none 0 0)).setCell ⟨w.heap.size + 1, 0, none⟩ (.int .i64 80)) ∧ Code.ret = Code.ret ∧ Blk ((W.setCell ⟨w.heap.size, 0, none⟩ (.slice none 0 0)).setCell ⟨w.heap.size + 1, 0, none⟩ (.int .i64 80)) w.heap.size 22 #[.slice none 0 0] ∧ Blk ((W.setCell ⟨w.heap.size, 0, none⟩ (.slice none 0 0)).setCell ⟨w.heap.size + 1, 0, none⟩ (.int .i64 80)) (w.heap.size + 1) 23 #[.int .i64 80] ∧ Below w.heap.size w ((W.setCell ⟨w.heap.size, 0, none⟩ (.slice none 0 0)).setCell ⟨w.heap.size + 1, 0, none⟩ (.int .i64 80)) ∧ ∃ x ∈ pre ++ [(xk, xt, xa)], x.1 = 0) := by
          refine Lib.hid ⟨((KeepsOthers.setCell _ _ _).trans (KeepsOthers.setCell _ _ _)).from _, rfl, ?_, ?_, ?_, ⟨_, List.mem_append_right _ (List.mem_singleton.2 rfl), hk⟩⟩
          · have := (k0.set_ 0 (.slice none 0 0)).grown (grownBy_setCell' _ (w.heap.size + 1) (.int .i64 80)) (fun e => by injection e with e; omega)
            simpa using this
          · have := (k1.grown (grownBy_setCell' W w.heap.size (.slice none 0 0)) (fun e => by injection e with e; omega)).set_ 0 (.int .i64 80)
            simpa using this
          · exact ((H4.out.2.2.2.2.2.trans ((h3.low (by omega)).mono (by omega))).setCell (p := ⟨w.heap.size, 0, none⟩) (Nat.le_refl _) _).setCell (p := ⟨w.heap.size + 1, 0, none⟩) (by simp) _
        have d0 := k0.cell 0
        have d0f := k0.frozen 0
        have d1 := k1.cell 0
        have d1f := k1.frozen 0
        subst hk
        clear h1 h2 h3 h4 hX k0 k1 HI HT
        gi_wp2
        rw [hs4] at HW
        exact ⟨HW.out.1, rfl, HW.out.2.2.1, HW.out.2.2.2.1, HW.out.2.2.2.2.1, xt, xa, List.mem_append_right _ (List.mem_singleton.2 rfl)⟩
      · have hke : ((xk : Int) == 0) = false := beq_eq_false_iff_ne.2 (by omega)
        obtain ⟨ao, co, rfl⟩ := own_slice h2
        have HK := Lib.hid hk
        have c0 := h1.cell 0
        have HQ : Hid (∀ j u, (tcells [⟨xk, t, xa⟩])[j]? = some u → (W.alloc (.cells #[.int .i64 xk, .string t, .int .i64 xa] 36)).cell? ((⟨W.heap.size, 0, none⟩ : Addr).add j) = some u) := Lib.hid (by
          obtain ⟨ad, e, _, hc⟩ := (Reads.tok (t := ⟨xk, t, xa⟩) (Blk.new W 36 #[.int .i64 xk, .string t, .int .i64 xa]) (B := W.heap.size + 1) (by omega)).2 (by omega)
          injection e with e
          subst e
          exact hc)
        obtain ⟨i0, hi, hz0, hz1, hz2⟩ := info_parts infoTp
        have hpl : pre.length ≤ 4001 := by omega
        clear h1 h2 h3 h4 hX hk
        gi_wp2_with (gi_at_builtin; refine wpListIn_append_own _ rfl _ _ 22 rfl w4.heap.size 36 i0 (.agg #[.int .i64 0, .string ⟨#[]⟩, .int .i64 0]) 3 32 Tryz.underlying22 hi hz0 hz1 hz2 rfl (by decide) (.slice ao pre.length co) pre.length (tcells (pre.map toTk)) rfl (HI.out.2.1.alloc _) ⟨W.heap.size, 0, none⟩ 1 1 (tcells [⟨xk, t, xa⟩]) rfl rfl HQ.out (tcells_one _) ?c1 ?c2 ?c3 ?_)
        case c1 => unfold maxLen; omega
        case c2 => omega
        case c3 => first | omega | (simp; omega)
        intro v2 w5 hown5 hgr5 _
        obtain ⟨a2, c2, rfl⟩ := own_slice hown5
        have hOwA : (W.alloc (.cells #[.int .i64 xk, .string t, .int .i64 xa] 36)).ownsRow w4.heap.size 36 3 (.slice ao pre.length co) pre.length (tcells (pre.map toTk)) := HI.out.2.1.alloc _
        have hne5 : some (w.heap.size + 2) ≠ Value.ownBlock (.slice ao pre.length co) := fun e => by
          have := own_base hOwA _ e.symm
          omega
        have hO5 := (HI.out.1.alloc (.cells #[.int .i64 xk, .string t, .int .i64 xa] 36)).grown hgr5 hne5
        have d0 := hO5.cell 0
        have d1 := hO5.frozen 0
        have HFin : Hid (KeepsFrom w4.heap.size W (w5.setCell ⟨w.heap.size + 2, 0, none⟩ (.slice a2 (pre.length + 1) c2)) ∧ (Kp0 w4.heap.size (w.heap.size + 2) W (w5.setCell ⟨w.heap.size + 2, 0, none⟩ (.slice a2 (pre.length + 1) c2)) ∧ KeepsWalks W (w5.setCell ⟨w.heap.size + 2, 0, none⟩ (.slice a2 (pre.length + 1) c2))) ∧
            ∃ v, Blk (w5.setCell ⟨w.heap.size + 2, 0, none⟩ (.slice a2 (pre.length + 1) c2)) (w.heap.size + 2) 22 #[v] ∧ (w5.setCell ⟨w.heap.size + 2, 0, none⟩ (.slice a2 (pre.length + 1) c2)).ownsRow w4.heap.size 36 3 v (pre ++ [(xk, xt, xa)]).length (tcells ((pre ++ [(xk, xt, xa)]).map toTk)) ∧ Kp0 w4.heap.size (w.heap.size + 2) w4 (w5.setCell ⟨w.heap.size + 2, 0, none⟩ (.slice a2 (pre.length + 1) c2)) ∧ ∀ x ∈ pre ++ [(xk, xt, xa)], x.1 ≠ 0) := by
          have hbW : Below W.heap.size W (W.alloc (.cells #[.int .i64 xk, .string t, .int .i64 xa] 36)) := al (Below.refl _ _) _
          have k1 : Kp0 w4.heap.size (w.heap.size + 2) W (w5.setCell ⟨w.heap.size + 2, 0, none⟩ (.slice a2 (pre.length + 1) c2)) := ((Kp0.of_below hbW hW4).trans (Kp0.grown hgr5 (by simp; omega) fun r e => own_base hOwA r e)).trans (Kp0.set_ _ _ _)
          have hcl : ∀ (j : Nat) (o : Obj), Value.ownBlock (.slice ao pre.length co) = some j → (W.alloc (.cells #[.int .i64 xk, .string t, .int .i64 xa] 36)).heap[j]? = some o → o.isCells = true ∧ o.isWalk = false := fun j o e ho => by
            rcases hOwA.2 with ⟨e0, _⟩ | ⟨b, cap, cur, e0, _, hh, _⟩
            · injection e0 with e0
              subst e0
              cases e
            · injection e0 with e0
              subst e0
              injection e with e
              have e : b = j := e
              subst e
              rw [hh] at ho
              injection ho with ho
              subst ho
              exact ⟨rfl, rfl⟩
          refine ⟨?_, ⟨k1, ?_⟩, .slice a2 (pre.length + 1) c2, ?_, ?_, HI.out.2.2.1.trans k1, fun x hx => ?_⟩
          · exact ((Kp0.keeps hbW).trans ((KeepsOthers.of_grownBy hgr5 fun j o e ho => (hcl j o e ho).1).from _)).trans ((KeepsOthers.setCell _ _ _).from _)
          · exact ((KeepsWalks.alloc _ _).trans (KeepsWalks.of_grownBy hgr5 fun j o e ho => (hcl j o e ho).2)).trans (KeepsWalks.setCell _ _ _)
          · have := hO5.set_ 0 (.slice a2 (pre.length + 1) c2)
            simpa using this
          · have e1 : tcells ((pre ++ [(xk, xt, xa)]).map toTk) = tcells (pre.map toTk) ++ tcells [⟨xk, t, xa⟩] := by
              rw [List.map_append, tcells_append]
              simp only [List.map_cons, List.map_nil, HT.out]
            rw [e1, List.length_append, List.length_singleton, hs4]
            refine hown5.kept (row := some (w.heap.size + 2)) (grownBy_setCell' _ _ _) ?_
            cases hv : Value.ownBlock (.slice a2 (pre.length + 1) c2) with
            | none => exact .inl rfl
            | some k =>
              refine .inr fun e => ?_
              injection e with e
              have := own_base hown5 k hv
              omega
          · rcases List.mem_append.1 hx with h | h
            · exact HI.out.2.2.2.1 x h
            · rw [List.mem_singleton.1 h]; exact HK.out
        clear hown5 hgr5 hne5 hO5 hOwA
        gi_wp2
        exact HFin.out
    case done =>
      rintro D xs W hD hS ⟨v, h1, h2, h3, h4⟩ hDD
      obtain ⟨ao, co, rfl⟩ := own_slice h2
      have k0 := h3.blk (by omega) (by omega) H4.out.1
      have k1 := h3.blk (by omega) (by omega) H4.out.2.1
      have hTk : tkB 0 s.data.toList = some xs := by
        rcases hS with h | ⟨⟨x, hx, h0⟩, _⟩
        · exact h
        · exact absurd h0 (h4 x hx)
      have c2 := h1.cell 0
      have d0 := k0.cell 0
      have d0f := k0.frozen 0
      have d1 := k1.cell 0
      have d1f := k1.frozen 0
      obtain ⟨W2, hW2⟩ : ∃ W2, W2 = (W.setCell ⟨w.heap.size, 0, none⟩ (.slice ao xs.length co)).setCell ⟨w.heap.size + 1, 0, none⟩ (.int .i64 0) := ⟨_, rfl⟩
      have hDD2 : W2.heap[D]? = some (.deferred (some [])) := by rw [hW2]; exact ((KeepsOthers.setCell _ _ _).trans (KeepsOthers.setCell _ _ _)).same D _ hDD rfl
      have kk0 : Blk W2 w.heap.size 22 #[.slice ao xs.length co] := by
        have := (k0.set_ 0 (.slice ao xs.length co)).far (p := ⟨w.heap.size + 1, 0, none⟩) (by simp) (.int .i64 0)
        rw [hW2]; simpa using this
      have kk1 : Blk W2 (w.heap.size + 1) 23 #[.int .i64 0] := by
        have := (k1.far (p := ⟨w.heap.size, 0, none⟩) (by simp) (.slice ao xs.length co)).set_ 0 (.int .i64 0)
        rw [hW2]; simpa using this
      have hown2 : W2.ownsRow w4.heap.size 36 3 (.slice ao xs.length co) xs.length (tcells (xs.map toTk)) := by
        have key : ∀ (W : World) (b : Nat) (u : Value), b < w4.heap.size → W.ownsRow w4.heap.size 36 3 (.slice ao xs.length co) xs.length (tcells (xs.map toTk)) → (W.setCell ⟨b, 0, none⟩ u).ownsRow w4.heap.size 36 3 (.slice ao xs.length co) xs.length (tcells (xs.map toTk)) := fun W b u hb h => by
          refine h.kept (row := some b) (grownBy_setCell' W b u) ?_
          cases hv : Value.ownBlock (.slice ao xs.length co) with
          | none => exact .inl rfl
          | some k =>
            refine .inr fun e => ?_
            injection e with e
            have := own_base h k hv
            omega
        rw [hW2]
        exact key _ _ _ (by omega) (key _ _ _ (by omega) h2)
      have hB2 : Below w.heap.size w W2 := by
        rw [hW2]
        exact ((H4.out.2.2.2.2.2.trans ((h3.low (by omega)).mono (by omega))).setCell (p := ⟨w.heap.size, 0, none⟩) (Nat.le_refl _) _).setCell (p := ⟨w.heap.size + 1, 0, none⟩) (by simp) _
      have HR : Hid (PToks w (W2.putObj D (.deferred none)) s (.returned (.tuple #[.slice ao xs.length co, .int .i64 0])) ∧ Below w.heap.size w (W2.putObj D (.deferred none))) := Lib.hid ⟨⟨_, xs, _, rfl, by
        unfold OutTk
        rw [List.length_map]
        exact own_weakerT (ownsRow_putObj hown2 (.deferred none) hDD2 rfl) (by omega), .inr (.inr ⟨by omega, hTk, rfl⟩)⟩, hB2.grown (grownBy_putObj' W2 D (.deferred none)) hB2.size (fun r e => by injection e with e; omega)⟩
      have z0 := (blk_own kk0 (grownBy_putObj' W2 D (.deferred none)) (fun r e => by injection e with e; subst e; exact ⟨_, hDD2, rfl⟩)).cell 0
      have z1 := (blk_own kk1 (grownBy_putObj' W2 D (.deferred none)) (fun r e => by injection e with e; subst e; exact ⟨_, hDD2, rfl⟩)).cell 0
      clear h1 h2 h3 h4 k0 k1 hTk hown2 hB2 kk0 kk1 hS
      gi_wp2
      rw [← hW2]
      refine ⟨by simp, .inl ⟨_, _, rfl, run_takeDeferred hDD2, ?_⟩⟩
      exact ⟨.tuple #[.slice ao xs.length co, .int .i64 0], by simp [results, Tryz.results7, go_sem, z0, z1], HR.out⟩
    case stop =>
      rintro D c pre W hD hS ⟨rfl, h2, h3, h4, x, hx, hx0⟩ hDD
      have hTk := hS x hx hx0
      have HR : Hid (PToks w (W.putObj D (.deferred none)) s (.returned (.tuple #[.slice none 0 0, .int .i64 80])) ∧ Below w.heap.size w (W.putObj D (.deferred none))) := Lib.hid ⟨⟨_, [], _, rfl, outTk_nil _ _ _, .inr (.inl ⟨by omega, hTk, rfl, rfl⟩)⟩, h4.grown (grownBy_putObj' W D (.deferred none)) h4.size (fun r e => by injection e with e; omega)⟩
      have z0 := (blk_own h2 (grownBy_putObj' W D (.deferred none)) (fun r e => by injection e with e; subst e; exact ⟨_, hDD, rfl⟩)).cell 0
      have z1 := (blk_own h3 (grownBy_putObj' W D (.deferred none)) (fun r e => by injection e with e; subst e; exact ⟨_, hDD, rfl⟩)).cell 0
      clear h2 h3 h4 hx hx0 hS hTk
      gi_wp2
      refine ⟨by simp, .inl ⟨_, _, rfl, run_takeDeferred hDD, ?_⟩⟩
      exact ⟨.tuple #[.slice none 0 0, .int .i64 80], by simp [results, Tryz.results7, go_sem, z0, z1], HR.out⟩
end Go.Proofs.YtphgbfgccagcbaaGreatDoor
namespace Go.Proofs.YtphgbfgccagcbaaGreatDoor
open Go.RowKit

theorem num_10 : isNu [49, 48] = true := isNu_iff.2 ⟨10, by decide, by decide, by
  unfold Lib.itoa
  rw [if_neg (by decide), show (10 : Int).toNat = 10 from rfl, dec_step (by decide), Lib.decDigits_one (by decide)]
  rfl⟩
theorem num_01 : isNu [48, 49] = false := by
  cases h : isNu [48, 49] with
  | false => rfl
  | true =>
    obtain ⟨n, h0, h1, h2⟩ := isNu_iff.1 h
    have hf := fold_itoa n ⟨by omega, h1⟩
    rw [h2] at hf
    have e : numFold [48, 49] = -1 := by decide +kernel
    rw [e] at hf
    have hn : n = 1 := by omega
    subst hn
    unfold Lib.itoa at h2
    rw [if_neg (by decide), show (1 : Int).toNat = 1 from rfl, Lib.decDigits_one (by decide)] at h2
    cases h2
theorem wd_select : isWd [115, 101, 108, 101, 99, 116] = true := by decide +kernel
theorem wd_a : isWd [97] = false := by decide +kernel
theorem wd_10 : isWd [49, 48] = false := by decide +kernel
theorem wd_01 : isWd [48, 49] = false := by decide +kernel
theorem fm_a : formed [97] = true := by decide +kernel
theorem fm_10 : formed [49, 48] = false := by decide +kernel
theorem fm_01 : formed [48, 49] = false := by decide +kernel
/-- the example: Select a<=10 -/
def exS : ByteArray := ⟨#[83, 101, 108, 101, 99, 116, 32, 97, 60, 61, 49, 48]⟩
def exT : List (Nat × List UInt8 × Nat) := [(1, [115, 101, 108, 101, 99, 116], 0), (2, [97], 7), (5, [60, 61], 8), (3, [49, 48], 10)]
theorem ex_tokens : tkB 0 exS.data.toList = some exT := by
  unfold tkB exS exT
  have o1 : oneB [83, 101, 108, 101, 99, 116, 32, 97, 60, 61, 49, 48] = some (1, [115, 101, 108, 101, 99, 116]) := by
    rw [one_run_eq (by decide) (by decide)]
    have e : Tok.run [83, 101, 108, 101, 99, 116, 32, 97, 60, 61, 49, 48] = [115, 101, 108, 101, 99, 116] := by decide +kernel
    rw [e, wd_select]; rfl
  have o2 : oneB [97, 60, 61, 49, 48] = some (2, [97]) := by
    rw [one_run_eq (by decide) (by decide)]
    have e : Tok.run [97, 60, 61, 49, 48] = [97] := by decide +kernel
    rw [e, wd_a, fm_a]; rfl
  have o3 : oneB [60, 61, 49, 48] = some (5, [60, 61]) := by
    rw [one_sign_eq (by decide) (by decide) (by decide)]
    rfl
  have o4 : oneB [49, 48] = some (3, [49, 48]) := by
    rw [one_run_eq (by decide) (by decide)]
    have e : Tok.run [49, 48] = [49, 48] := by decide +kernel
    rw [e, wd_10, fm_10, num_10]; rfl
  rw [Tok.tkz_some 0 _ (by decide) o1]
  show (Tok.tkz isWd formed isNu isTx 6 [32, 97, 60, 61, 49, 48]).map _ = _
  rw [Tok.tkz_blank 6 _ (.inl rfl), Tok.tkz_some 7 _ (by decide) o2]
  show ((Tok.tkz isWd formed isNu isTx 8 [60, 61, 49, 48]).map _).map _ = _
  rw [Tok.tkz_some 8 _ (by decide) o3]
  show (((Tok.tkz isWd formed isNu isTx 10 [49, 48]).map _).map _).map _ = _
  rw [Tok.tkz_some 10 _ (by decide) o4]
  show ((((Tok.tkz isWd formed isNu isTx 12 []).map _).map _).map _).map _ = _
  rw [Tok.tkz_nil]
  rfl
def exB : ByteArray := ⟨#[48, 49]⟩
theorem ex_none : tkB 0 exB.data.toList = none := by
  unfold tkB exB
  refine Tok.tkz_none 0 _ (by decide) ?_
  show oneB [48, 49] = none
  rw [one_run_eq (by decide) (by decide)]
  have e : Tok.run [48, 49] = [48, 49] := by decide +kernel
  rw [e, wd_01, fm_01, num_01]; rfl
theorem OutTk.reads {w w' : World} {T : TypeId} {v : Value} {l : List Tk} (h : OutTk w w' T v l) : ∃ (A : Option Addr) (c : Nat), v = .slice A l.length c ∧ TkReads w' w'.heap.size A l := by
  obtain ⟨A, c, h1, _, _, h2, _⟩ := tk_reads h
  exact ⟨A, c, h1, h2⟩
/-- the cells of the example's tokens -/
def exC : Array Value := #[.int .i64 1, .string ⟨#[115, 101, 108, 101, 99, 116]⟩, .int .i64 0, .int .i64 2, .string ⟨#[97]⟩, .int .i64 7, .int .i64 5, .string ⟨#[60, 61]⟩, .int .i64 8, .int .i64 3, .string ⟨#[49, 48]⟩, .int .i64 10]
theorem exC_reads {w : World} {g : Nat} {T : TypeId} (h : Blk w g T exC) : TkReads w w.heap.size (some ⟨g, 0, none⟩) (exT.map toTk) := fun _ =>
  ⟨g, 0, rfl, h.lt, fun i t hi => by
    match i, hi with
    | 0, hi => cases hi; exact ⟨h.cell 0, h.cell 1, h.cell 2⟩
    | 1, hi => cases hi; exact ⟨h.cell 3, h.cell 4, h.cell 5⟩
    | 2, hi => cases hi; exact ⟨h.cell 6, h.cell 7, h.cell 8⟩
    | 3, hi => cases hi; exact ⟨h.cell 9, h.cell 10, h.cell 11⟩
    | i + 4, hi => simp [exT] at hi⟩
set_option maxHeartbeats 4000000 in
set_option maxRecDepth 100000 in
theorem awake8_any (w : World) (hG : GT w) :
    Calls Tryz.prog 8 #[] w fun e w' => e = .returned (.bool true) ∧ Below w.heap.size w w' := by
  have HG := Lib.hid hG
  clear hG
  go_enter Tryz.func8, Tryz.ntmps8
  go_wp2_with fail
  refine (PTokens_any exS w HG.out (by decide)).mono ?_
  rintro e w1 ⟨⟨v, ts, r, rfl, ho, hc⟩, hb⟩
  rcases hc with ⟨h1, _⟩ | ⟨_, h1, _⟩ | ⟨_, h1, rfl⟩
  · exact absurd h1 (by decide)
  · rw [ex_tokens] at h1; cases h1
  rw [ex_tokens] at h1
  injection h1 with h1
  subst h1
  obtain ⟨A, c, rfl, hr⟩ := ho.reads
  have H1 := Lib.hid (And.intro hr hb)
  clear ho hr hb
  go_wp2_with fail
  refine (PTokens_any exB w1 (HG.out.thn H1.out.2) (by decide)).mono ?_
  rintro e w2 ⟨⟨v, ts, r, rfl, ho, hc⟩, hb⟩
  rcases hc with ⟨h1, _⟩ | ⟨_, h1, rfl, rfl⟩ | ⟨_, h1, rfl⟩
  · exact absurd h1 (by decide)
  · have H2 := Lib.hid (And.intro (H1.out.1.below hb hb.size) (thn H1.out.2 hb))
    clear ho hb h1 H1
    go_wp2_with fail
    refine (same_yes A (some ⟨w2.heap.size, 0, none⟩) c 4 (exT.map toTk) _ (H2.out.1.below (al (Below.refl _ _) (.cells exC 44)) (by simp)) (exC_reads (Blk.new w2 _ exC)) (by decide)).mono ?_
    rintro e w3 ⟨rfl, hb3⟩
    have H3 := Lib.hid (thn (al H2.out.2 _) hb3)
    clear hb3 H2
    go_wp2_with fail
    go_ret
    exact ⟨rfl, H3.out⟩
  · rw [ex_none] at h1; cases h1
end Go.Proofs.YtphgbfgccagcbaaGreatDoor
