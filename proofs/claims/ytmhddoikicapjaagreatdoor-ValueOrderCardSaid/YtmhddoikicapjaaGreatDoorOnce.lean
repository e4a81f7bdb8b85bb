/-
  CONTRACTS of package value: once (in place), Distinct.
-/
import Derived.Test.YtmhddoikicapjaaGreatDoorSortV
import Derived.Test.YtmhddoikicapjaaGreatDoorRefU
namespace Go.Proofs.YtmhddoikicapjaaGreatDoor
open Go.RowKit

theorem vcells_set (cl : List V) (m : Nat) (x : V) (j : Nat) (hj : j < cl.length * 3) :
    (vcells (cl.set m x))[j]? = if j = m * 3 then some (.int .i64 x.k) else if j = m * 3 + 1 then some (.int .i64 x.n) else if j = m * 3 + 2 then some (.string x.s) else (vcells cl)[j]? := by
  have hi : j / 3 < cl.length := by omega
  have e : j / 3 * 3 + j % 3 = j := by omega
  have h1 := vcells_at (cl.set m x) (j / 3) (j % 3) ((cl.set m x)[j / 3]'(by simpa using hi)) (List.getElem?_eq_getElem (by simpa using hi)) (by omega)
  have h2 := vcells_at cl (j / 3) (j % 3) (cl[j / 3]) (List.getElem?_eq_getElem hi) (by omega)
  rw [e] at h1 h2
  rw [h1, h2, List.getElem_set]
  by_cases hmi : m = j / 3
  · rw [if_pos hmi]
    rcases (show j % 3 = 0 ∨ j % 3 = 1 ∨ j % 3 = 2 by omega) with h3 | h3 | h3
    · rw [if_pos (by omega), h3]; rfl
    · rw [if_neg (by omega), if_pos (by omega), h3]; rfl
    · rw [if_neg (by omega), if_neg (by omega), if_pos (by omega), h3]; rfl
  · rw [if_neg hmi, if_neg (by omega), if_neg (by omega), if_neg (by omega)]
/-- a store into a row of the call's own -/
theorem own_store {w : World} {B : Nat} {e : TypeId} {g cap n : Nat} {cl : List V} (h : w.ownsRow B e 3 (.slice (some ⟨g, 0, none⟩) n cap) n (vcells cl)) (m : Nat) (x : V) (hm : m < n) :
    (((w.setCell ⟨g, m * 3, none⟩ (.int .i64 x.k)).setCell ⟨g, m * 3 + 1, none⟩ (.int .i64 x.n)).setCell ⟨g, m * 3 + 2, none⟩ (.string x.s)).ownsRow B e 3 (.slice (some ⟨g, 0, none⟩) n cap) n (vcells (cl.set m x)) := by
  have hcl : cl.length = n := by have := h.1; rw [vcells_len] at this; omega
  rcases h.2 with ⟨e0, _⟩ | ⟨g', cap', cur, e0, hb, hg, hn, hcm, hs, ht⟩
  · cases e0
  · injection e0 with e1 _ e3
    injection e1 with e1
    injection e1 with e1
    subst e1; subst e3
    have hB : Blk w g e cur := hg
    have hB3 := ((hB.set_ (m * 3) (.int .i64 x.k)).set_ (m * 3 + 1) (.int .i64 x.n)).set_ (m * 3 + 2) (.string x.s)
    refine ⟨by rw [vcells_len, List.length_set, hcl], .inr ⟨g, cap, _, rfl, hb, hB3, hn, hcm, by simpa using hs, ?_⟩⟩
    apply List.ext_getElem?
    intro j
    rw [List.getElem?_take, Array.getElem?_toList]
    by_cases hj : j < n * 3
    · have hj2 : j < cl.length * 3 := by omega
      have hold : cur[j]? = (vcells cl)[j]? := by rw [← ht, List.getElem?_take, if_pos hj, Array.getElem?_toList]
      rw [if_pos hj, vcells_set cl m x j hj2, Array.getElem?_setIfInBounds, Array.getElem?_setIfInBounds, Array.getElem?_setIfInBounds, hold]
      simp only [Array.size_setIfInBounds]
      by_cases j0 : j = m * 3
      · rw [if_neg (by omega), if_neg (by omega), if_pos (by omega), if_pos (by omega), if_pos j0]
      · by_cases j1 : j = m * 3 + 1
        · rw [if_neg (by omega), if_pos (by omega), if_pos (by omega), if_neg j0, if_pos j1]
        · by_cases j2 : j = m * 3 + 2
          · rw [if_pos (by omega), if_pos (by omega), if_neg j0, if_neg j1, if_pos j2]
          · rw [if_neg (by omega), if_neg (by omega), if_neg (by omega), if_neg j0, if_neg j1, if_neg j2]
    · rw [if_neg hj, List.getElem?_eq_none (by rw [vcells_len, List.length_set]; omega)]
/-- a row cut to its first elements -/
theorem own_cut {w : World} {B : Nat} {e : TypeId} {g cap n : Nat} {cl : List V} (h : w.ownsRow B e 3 (.slice (some ⟨g, 0, none⟩) n cap) n (vcells cl)) {m : Nat} (hm : m ≤ n) :
    w.ownsRow B e 3 (.slice (some ⟨g, 0, none⟩) m cap) m (vcells (cl.take m)) := by
  have hcl : cl.length = n := by have := h.1; rw [vcells_len] at this; omega
  rcases h.2 with ⟨e0, _⟩ | ⟨g', cap', cur, e0, hb, hg, hn, hcm, hs, ht⟩
  · cases e0
  · injection e0 with e1 _ e3
    injection e1 with e1
    injection e1 with e1
    subst e1; subst e3
    refine ⟨by rw [vcells_len, List.length_take]; omega, .inr ⟨g, cap, cur, rfl, hb, hg, by omega, hcm, hs, ?_⟩⟩
    apply List.ext_getElem?
    intro j
    rw [List.getElem?_take, Array.getElem?_toList]
    by_cases hj : j < m * 3
    · have hold : cur[j]? = (vcells cl)[j]? := by rw [← ht, List.getElem?_take, if_pos (by omega), Array.getElem?_toList]
      have hi : j / 3 < cl.length := by omega
      have e : j / 3 * 3 + j % 3 = j := by omega
      have h1 := vcells_at (cl.take m) (j / 3) (j % 3) (cl[j / 3]) (by rw [List.getElem?_take, if_pos (by omega), List.getElem?_eq_getElem hi]) (by omega)
      have h2 := vcells_at cl (j / 3) (j % 3) (cl[j / 3]) (List.getElem?_eq_getElem hi) (by omega)
      rw [e] at h1 h2
      rw [if_pos hj, hold, h1, h2]
    · rw [if_neg hj, List.getElem?_eq_none (by rw [vcells_len, List.length_take]; omega)]
theorem own_cap {w : World} {B : Nat} {e : TypeId} {g cap n : Nat} {xs : List Value} (h : w.ownsRow B e 3 (.slice (some ⟨g, 0, none⟩) n cap) n xs) : n ≤ cap := by
  rcases h.2 with ⟨e0, _⟩ | ⟨g', cap', cur, e0, hb, hg, hn, _⟩
  · cases e0
  · injection e0 with e1 _ e3
    omega
/-- no cell of a row of the call's own is frozen -/
theorem own_free {w : World} {B : Nat} {e : TypeId} {g cap n : Nat} {xs : List Value} (h : w.ownsRow B e 3 (.slice (some ⟨g, 0, none⟩) n cap) n xs) (i : Nat) : w.frozen? ⟨g, i, none⟩ = false := by
  rcases h.2 with ⟨e0, _⟩ | ⟨g', cap', cur, e0, hb, hg, _⟩
  · cases e0
  · injection e0 with e1 _ e3
    injection e1 with e1
    injection e1 with e1
    subst e1
    exact Blk.frozen (t := e) (cs := cur) hg i
theorem st3at {B : Nat} {w w0 : World} {g : Nat} (h : Below B w w0) (hg : B ≤ g) (i j k : Nat) (a b c : Value) :
    Below B w (((w0.setCell ⟨g, i, none⟩ a).setCell ⟨g, j, none⟩ b).setCell ⟨g, k, none⟩ c) :=
  ((h.setCell hg _).setCell hg _).setCell hg _
/-- what the row holds while it is gone through: the kept ones, then whatever, then the rest -/
def Mid (l cl : List V) (k : Nat) : Prop := cl.length = l.length ∧ cl.take (dd (l.take k)).length = dd (l.take k) ∧ cl.drop k = l.drop k
theorem Mid.start (l : List V) : Mid l l 0 := ⟨rfl, by simp [dd], rfl⟩
theorem Mid.at_ {l cl : List V} {k : Nat} (h : Mid l cl k) (hk : k < l.length) : cl[k]'(by rw [h.1]; exact hk) = l[k] := by
  have h1 := h.2.2
  rw [List.drop_eq_getElem_cons hk, List.drop_eq_getElem_cons (by rw [h.1]; exact hk)] at h1
  injection h1
theorem Mid.skip {l cl : List V} {k : Nat} (h : Mid l cl k) (he : dd (l.take (k + 1)) = dd (l.take k)) : Mid l cl (k + 1) := by
  refine ⟨h.1, by rw [he]; exact h.2.1, ?_⟩
  rw [← List.drop_drop, ← List.drop_drop, h.2.2]
theorem Mid.keep {l cl : List V} {k : Nat} (h : Mid l cl k) (hk : k < l.length) (he : dd (l.take (k + 1)) = dd (l.take k) ++ [l[k]]) : Mid l (cl.set (dd (l.take k)).length l[k]) (k + 1) := by
  have hlen := dd_take_len l k (by omega)
  refine ⟨by rw [List.length_set]; exact h.1, ?_, ?_⟩
  · rw [he, List.length_append, List.length_singleton]
    have hlt : (dd (l.take k)).length < cl.length := by rw [h.1]; omega
    rw [List.take_succ_eq_append_getElem (by rw [List.length_set]; exact hlt), List.getElem_set_self, List.take_set_of_le (Nat.le_refl _), h.2.1]
  · have := h.2.2
    rw [List.drop_set_of_lt (by omega), ← List.drop_drop, ← List.drop_drop, this]
theorem Mid.last {l cl : List V} {k : Nat} (h : Mid l cl (k + 1)) (hk : k < l.length) : ∃ m, (dd (l.take (k + 1))).length = m + 1 ∧ ∃ hm : m < cl.length, cl[m] = l[k] := by
  have hp := dd_take_pos hk
  have hl := dd_take_len l (k + 1) (by omega)
  obtain ⟨m, hm⟩ : ∃ m, (dd (l.take (k + 1))).length = m + 1 := ⟨(dd (l.take (k + 1))).length - 1, by omega⟩
  have hmc : m < cl.length := by rw [h.1]; omega
  refine ⟨m, hm, hmc, ?_⟩
  have h1 := dd_prev hk
  rw [List.getLast?_eq_getElem?, hm, Nat.add_sub_cancel, ← h.2.1, List.getElem?_take, if_pos (by omega), List.getElem?_eq_getElem hmc] at h1
  exact Option.some.inj h1
set_option maxHeartbeats 1000000 in
set_option maxRecDepth 100000 in
theorem once_any (B g cap : Nat) (l : List V) (w : World) (ho : w.ownsRow B 35 3 (.slice (some ⟨g, 0, none⟩) l.length cap) l.length (vcells l)) (hB : B ≤ w.heap.size) (hn : l.length ≤ 1000000) :
    Calls Tryz.prog 21 #[.slice (some ⟨g, 0, none⟩) l.length cap] w fun e w' => e = .returned (.slice (some ⟨g, 0, none⟩) (dd l).length cap) ∧ w'.ownsRow B 35 3 (.slice (some ⟨g, 0, none⟩) (dd l).length cap) (dd l).length (vcells (dd l)) ∧ Below B w w' := by
  have HO0 := Lib.hid ho
  have hgB : B ≤ g := own_base ho g rfl
  have hlc := own_cap ho
  have hdl := dd_len l
  have hgw : g < w.heap.size := (ho.lt g rfl).2
  have hne := @neqV
  clear ho
  go_enter Tryz.func21, Tryz.ntmps21
  go_wp2_with fail
  go_loopw [3, 8] (fun n i wr => ∃ (k N : Nat) (cl : List V), k ≤ l.length ∧ i = .int .i64 k ∧ n = .int .i64 N ∧ Hid (N = (dd (l.take k)).length) ∧ Hid (Mid l cl k) ∧ Hid (wr.ownsRow B 35 3 (.slice (some ⟨g, 0, none⟩) l.length cap) l.length (vcells cl)) ∧ Hid (Below B w wr)) (fun _ i _ => l.length - (intOf i).toNat)
  case atStart => exact ⟨0, 0, l, Nat.zero_le _, rfl, rfl, rfl, Mid.start l, HO0.out, Below.refl _ _⟩
  case round =>
    obtain ⟨k, N, cl, hk, rfl, rfl, HN, HM, HO, HB⟩ := hrel
    have hcl : cl.length = l.length := HM.out.1
    have hN : N ≤ k := by rw [HN.out]; exact dd_take_len l k hk
    by_cases hlt : k < l.length
    · have hlti : (k : Int) < (l.length : Int) := by omega
      have hk0i : (0 : Int) ≤ (k : Int) := by omega
      have hNi : (N : Int) < (l.length : Int) := by omega
      have hN0 : (0 : Int) ≤ (N : Int) := by omega
      have hNl : N < cl.length := by omega
      have hkl : k < cl.length := by omega
      have hho := HO.out
      rw [← hcl] at hho
      obtain ⟨A', c', hs', _, _, hrd, _⟩ := own_reads hho
      injection hs' with ea _ ec
      subst ea ec
      have cells : ∀ i (hi : i < cl.length), wr.cell? ⟨g, i * 3, none⟩ = some (.int .i64 cl[i].k) ∧ wr.cell? ⟨g, i * 3 + 1, none⟩ = some (.int .i64 cl[i].n) ∧ wr.cell? ⟨g, i * 3 + 2, none⟩ = some (.string cl[i].s) := fun i hi => by
        obtain ⟨b', o', ha, _, c0, c1, c2⟩ := hrd.at_ hi
        injection ha with ha
        injection ha with e1 e2
        subst e1 e2
        rw [Nat.zero_add] at c0 c1 c2
        exact ⟨c0, c1, c2⟩
      have hck := HM.out.at_ hlt
      obtain ⟨x0, x1, x2⟩ := cells k hkl
      obtain ⟨z0, z1, z2⟩ := cells N hNl
      rw [hck] at x0 x1 x2
      have hgwr : g < wr.heap.size := (HO.out.lt g rfl).2
      have F := Lib.hid (own_free HO.out)
      have CE := Lib.hid cells
      clear cells hrd hho hck
      rcases Nat.eq_zero_or_pos k with hk0 | hk0
      · have hkz : ((k : Int) == 0) = true := by simp [hk0]
        have HE : Hid (dd (l.take (k + 1)) = dd (l.take k) ++ [l[k]]) := by subst hk0; exact dd_first hlt
        clear hk0
        have hf0 := F.out (N * 3)
        have hf1 := F.out (N * 3 + 1)
        have hf2 := F.out (N * 3 + 2)
        go_wp2_with fail
        go_quiet (fail)
        go_wp2_with fail
        go_roundw
        case rel => exact ⟨k + 1, N + 1, cl.set N l[k], by omega, by go_num, by go_num, by show _ = _; rw [HE.out, List.length_append, ← HN.out]; rfl, by rw [HN.out]; exact HM.out.keep hlt HE.out, own_store (own_below HO.out (below_drewN (al (Below.refl _ _) _) _)) N l[k] (by omega), st3at (below_drewN (HB.out.alloc (Nat.le_trans hB HB.out.size) _) _) hgB _ _ _ _ _ _⟩
        case measure => simp [intOf]; omega
      · obtain ⟨j, hkj⟩ : ∃ j, k = j + 1 := ⟨k - 1, by omega⟩
        have hjl : j < l.length := by omega
        have hlast : ∃ m, N = m + 1 ∧ ∃ hm : m < cl.length, cl[m] = l[j] := by
          rw [HN.out]
          subst hkj
          exact HM.out.last hjl
        obtain ⟨m, hm1, hmc, hme⟩ := hlast
        obtain ⟨y0, y1, y2⟩ := CE.out m hmc
        rw [hme] at y0 y1 y2
        have hkz : ((k : Int) == 0) = false := beq_eq_false_iff_ne.2 (by omega)
        have hjw : wrap64 ((N : Int) - 1) = (m : Int) := by rw [hm1]; unfold wrap64; omega
        have hjw2 : IntKind.i64.wrap ((N : Int) - 1) = (m : Int) := by rw [hm1, IntKind.wrap_i64]; omega
        have hmi : (m : Int) < (l.length : Int) := by omega
        have hm0 : (0 : Int) ≤ (m : Int) := by omega
        by_cases he : l[k] = l[j]
        · have hv := veq_yes he
          have HE : Hid (dd (l.take (k + 1)) = dd (l.take k)) := by subst hkj; exact dd_same hlt he
          have HML := Lib.hid hm1
          clear he hm1 hme hkj
          go_wp2_with fail
          go_quiet (fail)
          go_wp2_with fail
          go_roundw
          case rel => exact ⟨k + 1, N, cl, by omega, by go_num, rfl, by show _ = _; rw [HE.out]; exact HN.out, HM.out.skip HE.out, own_below HO.out (below_drewN (al (Below.refl _ _) _) _), below_drewN (HB.out.alloc (Nat.le_trans hB HB.out.size) _) _⟩
          case measure => simp [intOf]; omega
        · have hv := veq_no he
          have HE : Hid (dd (l.take (k + 1)) = dd (l.take k) ++ [l[k]]) := by subst hkj; exact dd_diff hlt he
          have HML := Lib.hid hm1
          clear he hm1 hme hkj
          have hf0 := F.out (N * 3)
          have hf1 := F.out (N * 3 + 1)
          have hf2 := F.out (N * 3 + 2)
          go_wp2_with fail
          go_quiet (fail)
          go_wp2_with fail
          go_roundw
          case rel => exact ⟨k + 1, N + 1, cl.set N l[k], by omega, by go_num, by go_num, by show _ = _; rw [HE.out, List.length_append, ← HN.out]; rfl, by rw [HN.out]; exact HM.out.keep hlt HE.out, own_store (own_below HO.out (below_drewN (al (Below.refl _ _) _) _)) N l[k] (by omega), st3at (below_drewN (HB.out.alloc (Nat.le_trans hB HB.out.size) _) _) hgB _ _ _ _ _ _⟩
          case measure => simp [intOf]; omega
    · have hkl : k = l.length := by omega
      have hE : dd (l.take k) = dd l := by rw [hkl, List.take_length]
      have hNd : N = (dd l).length := by rw [HN.out, hE]
      have hdc : (N : Int) ≤ (cap : Int) := by omega
      have HC := Lib.hid (HM.out.2.1)
      have HE := Lib.hid hE
      have HND := Lib.hid hNd
      have HDL := Lib.hid hdl
      clear hE hkl hNd hdl
      go_wp2_with fail
      go_ret
      have hc2 := HC.out
      rw [HE.out] at hc2
      have ho2 := own_cut HO.out HDL.out
      rw [hc2] at ho2
      exact ⟨by rw [HND.out]; rfl, ho2, HB.out⟩

set_option maxHeartbeats 400000 in
theorem once_nil (w : World) :
    Calls Tryz.prog 21 #[.slice none 0 0] w fun e w' => e = .returned (.slice none 0 0) ∧ w' = w := by
  go_enter Tryz.func21, Tryz.ntmps21
  go_wp2_with fail
  go_loopw [3, 8] (fun n i wr => n = .int .i64 0 ∧ i = .int .i64 0 ∧ wr = w) (fun _ _ _ => 0)
  case atStart => exact ⟨rfl, rfl, rfl⟩
  case round =>
    obtain ⟨rfl, rfl, hwr⟩ := hrel
    subst hwr
    go_wp2_with fail
    go_ret
    exact ⟨rfl, rfl⟩
set_option maxHeartbeats 400000 in
theorem Distinct_ok (A : Option Addr) (c : Nat) (l : List V) (w : World) (hr : VReads w w.heap.size A l) (hA : Plain A) (hf : VFit l) (hn : l.length ≤ 1000000) (h0 : chk l = 0) :
    Calls Tryz.prog 9 #[.slice A l.length c] w fun e w' => ∃ v, e = .returned (.tuple #[v, .int .i64 0]) ∧ w'.ownsRow w.heap.size 35 3 v (dd (srt l)).length (vcells (dd (srt l))) ∧ Below w.heap.size w w' := by
  have HN := Lib.hid hn
  have H0 := Lib.hid h0
  have HS := Lib.hid (srt_len l)
  clear hn h0
  go_enter Tryz.func9, Tryz.ntmps9
  go_wp2_with fail
  refine (check_any A c l _ hr hf (by have := HN.out; unfold maxLen; omega)).mono ?_
  rw [H0.out]
  rintro e w1 ⟨rfl, hb1⟩
  have W1 := Lib.hid hb1
  clear hb1
  go_wp2_with fail
  refine (sortedBy_any A c l _ (hr.below W1.out W1.out.size) hA HN.out).mono ?_
  rintro e w2 ⟨v, rfl, ho, hb2⟩
  have HO := Lib.hid (own_lower ho W1.out.size)
  have W2 := Lib.hid (thn W1.out hb2)
  clear hb2 ho
  rcases HO.out.2 with ⟨rfl, hz⟩ | ⟨g, cap, cur, rfl, _⟩
  · have hnil : srt l = [] := List.eq_nil_of_length_eq_zero hz
    have HZ := Lib.hid hnil
    clear hz hnil
    go_wp2_with fail
    refine (once_nil _).mono ?_
    rintro e w3 ⟨rfl, rfl⟩
    go_wp2_with fail
    refine bodyPost_ret (v := .tuple #[.slice none 0 0, .int .i64 0]) (by simp [results, Tryz.results9, go_sem]) rfl ⟨_, rfl, ?_, W2.out⟩
    rw [HZ.out]
    exact ⟨rfl, .inl ⟨rfl, rfl⟩⟩
  · go_wp2_with fail
    refine (once_any w.heap.size g cap (srt l) _ HO.out W2.out.size (by rw [HS.out]; exact HN.out)).mono ?_
    rintro e w3 ⟨rfl, ho3, hb3⟩
    have HO3 := Lib.hid ho3
    have W3 : Hid (Below w.heap.size w w3) := W2.out.trans hb3
    clear ho3 hb3
    go_wp2_with fail
    exact bodyPost_ret (v := .tuple #[.slice (some ⟨g, 0, none⟩) (dd (srt l)).length cap, .int .i64 0]) (by simp [results, Tryz.results9, go_sem]) rfl ⟨_, rfl, HO3.out, W3.out⟩
set_option maxHeartbeats 400000 in
theorem Distinct_err (A : Option Addr) (c : Nat) (l : List V) (w : World) (hr : VReads w w.heap.size A l) (hf : VFit l) (hn : l.length ≤ 1000000) (h0 : chk l ≠ 0) :
    Calls Tryz.prog 9 #[.slice A l.length c] w fun e w' => e = .returned (.tuple #[.slice none 0 0, .int .i64 (chk l)]) ∧ Below w.heap.size w w' := by
  have HN := Lib.hid hn
  have e1 : (chk l != 0) = true := by simp [h0]
  clear hn h0
  go_enter Tryz.func9, Tryz.ntmps9
  go_wp2_with fail
  refine (check_any A c l _ hr hf (by have := HN.out; unfold maxLen; omega)).mono ?_
  rintro e w1 ⟨rfl, hb1⟩
  have W1 := Lib.hid hb1
  clear hb1
  go_wp2_with fail
  exact bodyPost_ret (v := .tuple #[.slice none 0 0, .int .i64 (chk l)]) (by simp [results, Tryz.results9, go_sem]) rfl ⟨rfl, W1.out⟩
end Go.Proofs.YtmhddoikicapjaaGreatDoor
