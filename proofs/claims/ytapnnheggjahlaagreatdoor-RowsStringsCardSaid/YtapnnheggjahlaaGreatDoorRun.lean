/-
  THE ITERATOR rows.runs: it hands on the runs of a list of rows, whatever a round does that leaves the rows alone.
-/
import Derived.Test.YtapnnheggjahlaaGreatDoorRgI
import Derived.Test.YtapnnheggjahlaaGreatDoorGF
import Derived.RangeFuncBox
import Derived.RangeFuncLeaves
import Derived.RangeFuncWrites
import Derived.Shelf.Abstract
import Derived.WalkKit
import Derived.OwnWalkIn
import Derived.TacticsInMore
import Derived.LoopNIn
import Derived.LoopIn
namespace Go.Proofs.YtapnnheggjahlaaGreatDoor
open Go.RowKit Go.Shelf
attribute [local go_sem] Oper.semAt_some

/-- from where to where a run goes -/
structure Seg (n : Nat) where
  f : Nat
  t : Nat
  h1 : f < t
  h2 : t ≤ n
/-- its rows -/
def Seg.of {α : Type} {n : Nat} (x : Seg n) (S : List α) : List α := (S.drop x.f).take (x.t - x.f)
section
variable {α : Type} {c : α → α → Int}
theorem takeWhile_len {p : α → Bool} : ∀ (l : List α) (k : Nat), k ≤ l.length → (∀ (j : Nat) (h : j < l.length), j < k → p l[j] = true) → (∀ (h : k < l.length), p l[k] = false) → l.takeWhile p = l.take k ∧ l.dropWhile p = l.drop k
  | [], k, h, _, _ => by simp
  | x :: l, 0, _, _, h2 => by
    have := h2 (by simp)
    simp only [List.getElem_cons_zero] at this
    simp [this]
  | x :: l, k + 1, h, h1, h2 => by
    have h0 := h1 0 (by simp) (by omega)
    simp only [List.getElem_cons_zero] at h0
    obtain ⟨e1, e2⟩ := takeWhile_len l k (by simpa using h) (fun j hj hk => by have := h1 (j + 1) (by simpa using hj) (by omega); simpa using this) (fun hk => by have := h2 (by simpa using hk); simpa using this)
    simp [h0, e1, e2]
theorem runs_cut (S : List α) (f k : Nat) (hf : f < k) (hk : k ≤ S.length) (h1 : ∀ (j : Nat) (h : j < S.length), f ≤ j → j < k → c (S[f]'(by omega)) S[j] = 0) (h2 : ∀ (h : k < S.length), c (S[f]'(by omega)) S[k] ≠ 0) :
    runsOf c (S.drop f) = ((S.drop f).take (k - f)) :: runsOf c (S.drop k) := by
  rw [List.drop_eq_getElem_cons (show f < S.length by omega), runsOf_cons]
  obtain ⟨e1, e2⟩ := takeWhile_len (p := fun y => c (S[f]'(by omega)) y == 0) (S.drop (f + 1)) (k - f - 1) (by simp; omega) (fun j hj hk => by
    rw [List.getElem_drop]
    simpa using h1 (f + 1 + j) (by simp at hj; omega) (by omega) (by omega)) (fun hk => by
    rw [List.getElem_drop]
    have := h2 (by simp at hk; omega)
    simpa [show f + 1 + (k - f - 1) = k by omega] using this)
  rw [e1, e2, List.drop_drop, show f + 1 + (k - f - 1) = k by omega]
  congr 1
  rw [show k - f = (k - f - 1) + 1 by omega, List.take_succ_cons]
  simp
end

/-- what the iterator wants of memory -/
structure RunF (P : List V → Prop) (c : List V → List V → Int) (S : List (List V)) (bl bb g cap : Nat) (W : World) : Prop where
  box : W.cell? ⟨bl, 0, none⟩ = some (.slice (some ⟨g, 0, none⟩) S.length cap)
  ord : ∃ gf cb, W.cell? ⟨bb, 0, none⟩ = some (.func (.func gf) #[] cb) ∧ (∀ args W, (callFunc gf args).run Tryz.prog W = .ok (.enter gf args) W) ∧
    ∀ A A' c1 c2 a b, VReads W W.heap.size A a → VReads W W.heap.size A' b → P a → P b →
      Calls Tryz.prog gf (#[.slice A a.length c1, .slice A' b.length c2] ++ cb) W fun e w' => e = .returned (.int .i64 (c a b)) ∧ Lay W w'
  rows : ∀ (i : Nat) (h : i < S.length), ∃ A cr, W.cell? ⟨g, i, none⟩ = some (.slice A S[i].length cr) ∧ VReads W W.heap.size A S[i] ∧ P S[i]
theorem below_grownBy {w w' : World} (hb : Below w.heap.size w w') : w.grownBy w' none := ⟨hb.os, hb.tape, hb.output, hb.size, fun i hi _ => hb.block i hi⟩

set_option maxRecDepth 100000 in
set_option maxHeartbeats 2000000 in
theorem runs1_in (n : Nat) (l bl bb g cap : Nat) (P : List V → Prop) (c : List V → List V → Int) (hc : WO c) (S : List (List V)) (hn : S.length ≤ 20000) (hcap : S.length ≤ cap) (hcm : cap ≤ maxLen)
    (Kp : World → World → Prop) (Fc : World → Prop) (hFR : ∀ W, Fc W → RunF P c S bl bb g cap W) (hFK : ∀ W W', Kp W W' → Fc W → Fc W') (hFB : ∀ W W', Below W.heap.size W W' → Fc W → Fc W')
    (J Jx : List (Seg S.length) → World → Prop) (hJ : ∀ pre W W', J pre W → W.grownBy W' none → J pre W')
    (hY : ∀ pre (x : Seg S.length) W, J pre W → pre.length < S.length → YieldAt Fence.wide (n - 1) Tryz.prog l #[.slice (some ⟨g, x.f, none⟩) (x.t - x.f) (x.t - x.f)] W fun e W' =>
      (e = .returned (.bool true) ∧ J (pre ++ [x]) W' ∧ Kp W W') ∨ (e = .returned (.bool false) ∧ Jx (pre ++ [x]) W'))
    (W : World) (hF : Fc W) (h0 : J [] W) :
    CallsIn Fence.wide n Tryz.prog 100 #[.func (.yield l) #[] #[], .pointer (some ⟨bl, 0, none⟩), .pointer (some ⟨bb, 0, none⟩)] W fun e W' => (∃ v, e = .returned v) ∧
      ((∃ xs, xs.map (fun x => x.of S) = runsOf c S ∧ J xs W') ∨ (∃ pre, True ∧ Jx pre W')) := by
  have HF := Lib.hid hF
  have hbox := (hFR _ hF).box
  unfold maxLen at hcm
  have HC := Lib.hid (And.intro hcap hcm)
  clear hF hcap hcm
  refine callsIn_of_wp Tryz.func100 rfl trivial ?_ rfl
  simp only [Tryz.ntmps100, List.size_toArray, List.length_cons, List.length_nil, Nat.reduceAdd, Nat.reduceSub, Array.replicate_succ, Array.replicate_zero, List.push_toArray, List.append_toArray, List.nil_append, List.cons_append]
  gi_wp2
  clear hbox
  gi_loopw [4, 8] (fun f i wr => ∃ (a k : Nat) (pre : List (Seg S.length)), k ≤ S.length ∧ i = .int .i64 k ∧ f = .int .i64 a ∧ a ≤ k ∧ (k = 0 → a = 0) ∧ Hid ((0 < k → a < k) ∧ pre.length ≤ a ∧ runsOf c S = pre.map (fun x => x.of S) ++ runsOf c (S.drop a) ∧ (∀ (j : Nat) (h : j < S.length), a ≤ j → j < k → ∀ (ha : a < S.length), c S[a] S[j] = 0) ∧ J pre wr ∧ Fc wr))
    (fun _ i _ => S.length - (intOf i).toNat)
  case atStart => exact ⟨0, 0, [], Nat.zero_le _, rfl, rfl, Nat.le_refl _, fun _ => rfl, fun h => absurd h (by omega), Nat.le_refl _, by simp, fun j h h1 h2 => absurd h2 (by omega), h0, HF.out⟩
  case round =>
    obtain ⟨a, k, pre, hk, rfl, rfl, hak, hk0, HI⟩ := hrel
    clear HF
    by_cases hlt : k < S.length
    · have hF := hFR _ HI.out.2.2.2.2.2
      have hFc := HI.out.2.2.2.2.2
      have hla : a < S.length := by omega
      obtain ⟨gf, cb, hby, heg, -⟩ := hF.ord
      obtain ⟨Aa, ca, ra, va, pa⟩ := hF.rows a hla
      obtain ⟨Ak, ck, rk, vk, pk⟩ := hF.rows k hlt
      have X1 : ∀ x : Aft wr, x.w.cell? ⟨bl, 0, none⟩ = some (.slice (some ⟨g, 0, none⟩) S.length cap) := fun x => (hFR _ (hFB _ _ x.h hFc)).box
      have X2 : ∀ x : Aft wr, x.w.cell? ⟨bb, 0, none⟩ = some (.func (.func gf) #[] cb) := fun x => (x.h.cell (World.block_lt_of_cell? wr _ hby)).trans hby
      have X3 : ∀ x : Aft wr, x.w.cell? ⟨g, a, none⟩ = some (.slice Aa S[a].length ca) := fun x => (x.h.cell (World.block_lt_of_cell? wr _ ra)).trans ra
      have X4 : ∀ x : Aft wr, x.w.cell? ⟨g, k, none⟩ = some (.slice Ak S[k].length ck) := fun x => (x.h.cell (World.block_lt_of_cell? wr _ rk)).trans rk
      have X5 : Hid (∀ x : Aft wr, Calls Tryz.prog gf (#[.slice Aa S[a].length ca, .slice Ak S[k].length ck] ++ cb) x.w fun e w' => e = .returned (.int .i64 (c S[a] S[k])) ∧ Below x.w.heap.size x.w w') := fun x => by
        obtain ⟨gf', cb', hby', _, hcall⟩ := (hFR _ (hFB _ _ x.h hFc)).ord
        have e := (X2 x).symm.trans hby'
        injection e with e
        injection e with e1 _ e2
        injection e1 with e1
        subst e1 e2
        exact (hcall Aa Ak ca ck S[a] S[k] (va.below x.h x.h.size) (vk.below x.h x.h.size) pa pk).mono fun _ _ ⟨h1, h2⟩ => ⟨h1, h2.1⟩
      have hbox := hF.box
      have hka : (k : Int) < (S.length : Int) := by omega
      have haa : (a : Int) < (S.length : Int) := by omega
      clear hF hFc hby ra va pa rk vk pk
      gi_wp2
      refine wpIn_wide.2 (region_aft (by kernel_rfl) (by kernel_rfl) ?_)
      repeat (go_big_quiet_step ((exact aft_call (X5.out _))))
      refine wpQuiet_nil ?_
      intro x9
      have HJ := Lib.hid (And.intro (hJ pre wr x9.w HI.out.2.2.2.2.1 (below_grownBy x9.h)) (hFB _ _ x9.h HI.out.2.2.2.2.2))
      have hbox9 := X1 x9
      clear X1 X2 X3 X4 X5 hbox heg
      obtain ⟨r, hr⟩ : ∃ r, r = c S[a] S[k] := ⟨_, rfl⟩
      rw [← hr]
      by_cases hr0 : r = 0
      · have HN : Hid ((0 < k + 1 → a < k + 1) ∧ pre.length ≤ a ∧ runsOf c S = pre.map (fun x => x.of S) ++ runsOf c (S.drop a) ∧ (∀ (j : Nat) (h : j < S.length), a ≤ j → j < k + 1 → ∀ (ha : a < S.length), c S[a] S[j] = 0) ∧ J pre x9.w ∧ Fc x9.w) := by
          obtain ⟨_, h2, h3, h4, _, _⟩ := HI.out
          refine ⟨fun _ => by omega, h2, h3, fun j hj h5 h6 ha => ?_, HJ.out.1, HJ.out.2⟩
          by_cases e : j = k
          · subst e; rw [← hr]; exact hr0
          · exact h4 j hj h5 (by omega) ha
        clear hr HI HJ
        subst hr0
        gi_wp2
        go_roundw
        case rel => exact ⟨a, k + 1, pre, by omega, by go_num, rfl, by omega, fun h => absurd h (by omega), HN⟩
        case measure => simp [intOf]; omega
      · have hak2 : a < k := by
          rcases Nat.eq_or_lt_of_le hak with e | e
          · subst e; exact absurd (hr.trans (hc.self _)) hr0
          · exact e
        have hrb : (r != 0) = true := by simp [hr0]
        have hkk : k < S.length := hlt
        have HN := Lib.hid (runs_cut (c := c) S a k hak2 hk (fun j hj h1 h2 => HI.out.2.2.2.1 j hj h1 h2 hla) (fun h => by rw [← hr]; exact hr0))
        obtain ⟨fn, tmps, assign, body, hy, hR⟩ := hY pre ⟨a, k, hak2, hk⟩ x9.w HJ.out.1 (by have := HI.out.2.1; omega)
        have HRR := Lib.hid hR
        dsimp only at hy
        clear hr hr0 hR
        have hkc : k ≤ cap := by have := HC.out.1; omega
        have hne : ¬ k = a := by omega
        gi_wp2
        refine ⟨fun h => by simp [Fence.wide] at h, HRR.out.mono ?_⟩
        rintro e W3 (⟨rfl, hJ3, hk3⟩ | ⟨rfl, hJx3⟩)
        · have HN2 : Hid ((0 < k + 1 → k < k + 1) ∧ (pre ++ [(⟨a, k, hak2, hk⟩ : Seg S.length)]).length ≤ k ∧ runsOf c S = (pre ++ [(⟨a, k, hak2, hk⟩ : Seg S.length)]).map (fun x => x.of S) ++ runsOf c (S.drop k) ∧ (∀ (j : Nat) (h : j < S.length), k ≤ j → j < k + 1 → ∀ (ha : k < S.length), c S[k] S[j] = 0) ∧ J (pre ++ [(⟨a, k, hak2, hk⟩ : Seg S.length)]) W3 ∧ Fc W3) := by
            obtain ⟨_, h2, h3, _, _, _⟩ := HI.out
            refine ⟨fun _ => by omega, by simp; omega, ?_, fun j hj h5 h6 ha => ?_, hJ3, hFK _ _ hk3 HJ.out.2⟩
            · rw [h3, HN.out]
              simp [Seg.of]
            · have : j = k := by omega
              subst this
              exact hc.self _
          clear hJ3 hk3 hbox9 hy HRR HN HI HJ
          gi_wp2
          go_roundw
          case rel => exact ⟨k, k + 1, pre ++ [(⟨a, k, hak2, hk⟩ : Seg S.length)], by omega, by go_num, rfl, by omega, fun h => absurd h (by omega), HN2⟩
          case measure => simp [intOf]; omega
        · clear hbox9 hy HRR HN HI HJ
          gi_wp2
          refine bodyPost_ret (results_none rfl _ _ _) rfl ?_
          exact ⟨⟨_, rfl⟩, .inr ⟨_, trivial, hJx3⟩⟩
    · have hkn : k = S.length := by omega
      subst hkn
      have hbox := (hFR _ HI.out.2.2.2.2.2).box
      by_cases ha : a < S.length
      · have hai : (a : Int) < (S.length : Int) := by omega
        have HN := Lib.hid (runs_cut (c := c) S a S.length ha (Nat.le_refl _) (fun j hj h1 h2 => HI.out.2.2.2.1 j hj h1 h2 ha) (fun h => absurd h (by omega)))
        obtain ⟨fn, tmps, assign, body, hy, hR⟩ := hY pre ⟨a, S.length, ha, Nat.le_refl _⟩ wr HI.out.2.2.2.2.1 (by have := HI.out.2.1; omega)
        have HRR := Lib.hid hR
        dsimp only at hy
        clear hR
        have hkc : S.length ≤ cap := HC.out.1
        have hne : ¬ S.length = a := by omega
        have hle : a ≤ S.length := by omega
        gi_wp2
        refine ⟨fun h => by simp [Fence.wide] at h, HRR.out.mono ?_⟩
        rintro e W3 (⟨rfl, hJ3, hk3⟩ | ⟨rfl, hJx3⟩)
        · have HE : Hid ((pre ++ [(⟨a, S.length, ha, Nat.le_refl _⟩ : Seg S.length)]).map (fun x => x.of S) = runsOf c S) := by
            obtain ⟨_, h2, h3, _, _, _⟩ := HI.out
            show List.map _ _ = _
            rw [h3, HN.out, List.drop_length, runsOf_nil]
            simp [Seg.of]
          gi_wp2
          go_end0
          exact ⟨⟨_, rfl⟩, .inl ⟨_, HE.out, hJ3⟩⟩
        · gi_wp2
          go_end0
          exact ⟨⟨_, rfl⟩, .inr ⟨_, trivial, hJx3⟩⟩
      · have hai : ¬ (a : Int) < (S.length : Int) := by omega
        have HE : Hid (pre.map (fun x => x.of S) = runsOf c S) := by
          obtain ⟨_, h2, h3, _, _, _⟩ := HI.out
          show List.map _ _ = _
          rw [h3, List.drop_eq_nil_of_le (by omega), runsOf_nil, List.append_nil]
        gi_wp2
        go_end0
        exact ⟨⟨_, rfl⟩, .inl ⟨_, HE.out, HI.out.2.2.2.2.1⟩⟩
end Go.Proofs.YtapnnheggjahlaaGreatDoor
