/-
  GrpM: MATHEMATICS of groups: the runs of the rows sorted by places are, head by head, the rows that have the head's values there.
  Coll: CONTRACTS of the library's slices.AppendSeq and slices.Collect at the runs of rows.
-/
import Derived.Test.YtapnnheggjahlaaGreatDoorGO
import Derived.Test.YtapnnheggjahlaaGreatDoorCho
namespace Go.Proofs.YtapnnheggjahlaaGreatDoor
open Go.RowKit

/-- the values at places -/
def atR (ps : List Nat) (r : List V) : List V := ps.map fun p => r[p]?.getD zV
/-- places as keys that rise -/
def kR (ps : List Nat) : List (Nat × Bool) := ps.map fun p => (p, false)
theorem cmpKs_atR : ∀ (ps : List Nat) (a b : List V), cmpKs (kR ps) a b = cmpR (atR ps a) (atR ps b)
  | [], _, _ => rfl
  | p :: ps, a, b => by
    show lexC (cmpKey (p, false)) (cmpKs (kR ps)) a b = cmpR ((a[p]?.getD zV) :: atR ps a) ((b[p]?.getD zV) :: atR ps b)
    unfold lexC cmpR
    rw [cmpKs_atR ps a b]
    rfl
theorem le_at {ps : List Nat} {a b : List V} (h : leC (cmpKR (kR ps)) a b = true) : leC cmpR (atR ps a) (atR ps b) = true := by
  rw [leC_iff] at h ⊢
  unfold cmpKR lexC at h
  rw [cmpKs_atR] at h
  split at h <;> omega
theorem rise_at {ps : List Nat} {S : List (List V)} (h : S.Pairwise fun a b => leC (cmpKR (kR ps)) a b = true) : (S.map (atR ps)).Pairwise fun a b => leC cmpR a b = true :=
  List.pairwise_map.2 (h.imp fun h => le_at h)
/-- what the program groups -/
def sortK (ps : List Nat) (l : List (List V)) : List (List V) := srtC (cmpKR (kR ps)) l
theorem sortK_rises (ps : List Nat) (l : List (List V)) : (sortK ps l).Pairwise fun a b => leC (cmpKR (kR ps)) a b = true := srtC_rises (cmpKR_WO _) l
theorem sortK_perm (ps : List Nat) (l : List (List V)) : (sortK ps l).Perm l := srtC_perm l
/-- the heads -/
def headsR (ps : List Nat) (l : List (List V)) : List (List V) := ddR (canon ((canon l).map (atR ps)))
theorem headsR_eq (ps : List Nat) (l : List (List V)) : headsR ps l = hdsR ((sortK ps l).map (atR ps)) := by
  unfold headsR
  rw [ddR_eq]
  have h1 : canon ((canon l).map (atR ps)) = canon ((sortK ps l).map (atR ps)) := canon_perm.2 (((srtC_perm l).trans (sortK_perm ps l).symm).map _)
  rw [h1, canon_id (rise_at (sortK_rises ps l))]
/-- the groups -/
def groupsR (ps : List Nat) (l : List (List V)) : List (List (List V)) := (headsR ps l).map fun h => (canon l).filter fun r => decide (atR ps r = h)
theorem runs_groups (ps : List Nat) : ∀ (n : Nat) (S : List (List V)), S.length = n → S.Pairwise (fun a b => leC (cmpKR (kR ps)) a b = true) →
    runsOf (cmpKs (kR ps)) S = (hdsR (S.map (atR ps))).map fun h => S.filter fun r => decide (atR ps r = h) := by
  intro n
  induction n using Nat.strongRecOn with
  | _ n ih =>
    intro S hn hS
    match S, hn, hS with
    | [], _, _ => rw [runsOf_nil, List.map_nil, hdsR_nil]; rfl
    | x :: t, hn, hS =>
      have hp : (fun y => cmpKs (kR ps) x y == 0) = fun y => decide (atR ps y = atR ps x) := funext fun y => by rw [cmpKs_atR]; exact c0_beq _ _
      have hm := rise_at hS
      rw [List.map_cons] at hm
      obtain ⟨-, h2⟩ := run_front hm
      rw [runsOf_cons, hp, List.map_cons, hdsR_cons, List.map_cons]
      have hd : (t.map (atR ps)).dropWhile (fun y => decide (y = atR ps x)) = (t.dropWhile fun y => decide (atR ps y = atR ps x)).map (atR ps) := by
        rw [List.dropWhile_map]; rfl
      rw [hd] at h2 ⊢
      have hsub := (List.dropWhile_sublist (fun y => decide (atR ps y = atR ps x)) (l := t))
      have hl := hsub.length_le
      rw [ih _ (by rw [List.length_cons] at hn; omega) _ rfl ((List.pairwise_cons.1 hS).2.sublist hsub)]
      have hsplit : ∀ h, (x :: t).filter (fun r => decide (atR ps r = h)) = (x :: t.takeWhile fun y => decide (atR ps y = atR ps x)).filter (fun r => decide (atR ps r = h)) ++ (t.dropWhile fun y => decide (atR ps y = atR ps x)).filter (fun r => decide (atR ps r = h)) := fun h => by
        rw [← List.filter_append, List.cons_append, List.takeWhile_append_dropWhile]
      have htk : ∀ y ∈ t.takeWhile (fun y => decide (atR ps y = atR ps x)), atR ps y = atR ps x := fun y hy => by
        have := List.all_eq_true.1 List.all_takeWhile y hy
        simpa using this
      congr 1
      · rw [hsplit]
        have e1 : (x :: t.takeWhile fun y => decide (atR ps y = atR ps x)).filter (fun r => decide (atR ps r = atR ps x)) = (x :: t.takeWhile fun y => decide (atR ps y = atR ps x)) := List.filter_eq_self.2 fun y hy => by
          rcases List.mem_cons.1 hy with e | hy
          · rw [e]; simp
          · simpa using htk y hy
        have e2 : (t.dropWhile fun y => decide (atR ps y = atR ps x)).filter (fun r => decide (atR ps r = atR ps x)) = [] := List.filter_eq_nil_iff.2 fun y hy => by
          intro e
          exact h2 (List.mem_map.2 ⟨y, hy, by simpa using e⟩)
        rw [e1, e2, List.append_nil]
      · refine List.map_congr_left fun h hh => ?_
        have hne : h ≠ atR ps x := fun e => h2 (Eq.subst (motive := fun z => z ∈ (t.dropWhile fun y => decide (atR ps y = atR ps x)).map (atR ps)) e (hdsR_mem hh))
        rw [hsplit]
        have e1 : (x :: t.takeWhile fun y => decide (atR ps y = atR ps x)).filter (fun r => decide (atR ps r = h)) = [] := List.filter_eq_nil_iff.2 fun y hy => by
          rcases List.mem_cons.1 hy with e | hy
          · rw [e]; simpa using fun e => hne e.symm
          · rw [htk y hy]; simpa using fun e => hne e.symm
        rw [e1, List.nil_append]
/-- THE GROUPS: what the program collects is what the reference has -/
theorem groups_eq (ps : List Nat) (l : List (List V)) : runsOf (cmpKs (kR ps)) (sortK ps l) = groupsR ps l := by
  rw [runs_groups ps _ _ rfl (sortK_rises ps l), ← headsR_eq]
  unfold groupsR
  refine List.map_congr_left fun h _ => ?_
  have h1 : ((sortK ps l).filter fun r => decide (atR ps r = h)).Perm ((canon l).filter fun r => decide (atR ps r = h)) := ((sortK_perm ps l).trans (srtC_perm l).symm).filter _
  have h2 : ((sortK ps l).filter fun r => decide (atR ps r = h)).Pairwise fun a b => leC cmpR a b = true := by
    refine ((sortK_rises ps l).sublist List.filter_sublist).imp_of_mem fun {a b} ha hb hab => ?_
    have ha := (List.mem_filter.1 ha).2
    have hb := (List.mem_filter.1 hb).2
    rw [decide_eq_true_iff] at ha hb
    rw [leC_iff] at hab ⊢
    unfold cmpKR lexC at hab
    rw [cmpKs_atR, ha, hb, cmpR_self, if_pos rfl] at hab
    exact hab
  have h3 : ((canon l).filter fun r => decide (atR ps r = h)).Pairwise fun a b => leC cmpR a b = true := (srtC_rises cmpR_WO l).sublist List.filter_sublist
  exact (canon_id h2).symm.trans ((canon_perm.2 h1).trans (canon_id h3))
end Go.Proofs.YtapnnheggjahlaaGreatDoor
namespace Go.Proofs.YtapnnheggjahlaaGreatDoor
open Go.RowKit Go.Shelf
attribute [local go_sem] Oper.semAt_some

theorem infoLL : (Tryz.prog.info? 23).map (fun i => (i.zero, i.size, i.bytes)) = some (some (.slice none 0 0), 1, 24) := by kernel_rfl
/-- a run as a slice value -/
def segV {n : Nat} (g : Nat) (x : Seg n) : Value := .slice (some ⟨g, x.f, none⟩) (x.t - x.f) (x.t - x.f)
set_option maxRecDepth 100000 in
set_option maxHeartbeats 2000000 in
theorem AppendSeq_runs (bl bb g cap : Nat) (P : List V → Prop) (c : List V → List V → Int) (hc : WO c) (S : List (List V)) (hn : S.length ≤ 20000) (hcap : S.length ≤ cap) (hcm : cap ≤ maxLen) (w : World)
    (hRF : ∀ W, Below w.heap.size w W → RunF P c S bl bb g cap W) :
    Calls Tryz.prog 99 #[.slice none 0 0, .func (.func 100) #[] #[.pointer (some ⟨bl, 0, none⟩), .pointer (some ⟨bb, 0, none⟩)]] w fun e w' => ∃ (v : Value) (xs : List (Seg S.length)), e = .returned v ∧ xs.map (fun x => x.of S) = runsOf c S ∧ w'.ownsRow w.heap.size 23 1 v xs.length (xs.map (segV g)) ∧ Below w.heap.size w w' := by
  have HRF := Lib.hid hRF
  clear hRF
  refine (callsIn_wide (n := 3)).1 ?_
  refine callsIn_of_wp_marks Tryz.func99 rfl trivial ?_ rfl
  simp only [Tryz.ntmps99, List.size_toArray, List.length_cons, List.length_nil, Nat.reduceAdd, Nat.reduceSub, Array.replicate_succ, Array.replicate_zero, List.push_toArray, List.append_toArray, List.nil_append, List.cons_append]
  gi_wp2
  obtain ⟨w4, hw4⟩ : ∃ W, W = w.alloc (.cells #[.slice none 0 0] 53) := ⟨_, rfl⟩
  have hb4 : Below w.heap.size w w4 := by rw [hw4]; exact al (Below.refl _ _) _
  have hs4 : w4.heap.size = w.heap.size + 1 := by rw [hw4]; simp
  have hB4 : Blk w4 w.heap.size 53 #[.slice none 0 0] := by rw [hw4]; exact Blk.new _ _ _
  have H4 := Lib.hid (And.intro hb4 hB4)
  rw [← hw4]
  clear hw4 hb4 hB4
  refine wpIn_rangeFunc_ownG rfl (by decide) (gf := 100) (lb := #[.pointer (some ⟨bl, 0, none⟩), .pointer (some ⟨bb, 0, none⟩)]) rfl trivial (enters_of Tryz.func100 (by kernel_rfl) rfl)
    (runs_stops (3 - 1) bl bb g cap P c hc S hn hcap hcm (Kp0 w4.heap.size w.heap.size) (fun W => Kp0 w4.heap.size w.heap.size w4 W)
      (fun W hk => HRF.out W (H4.out.1.trans (hk.low (by omega)))) 
      (fun W W' h k => k.trans h) (fun W W' hb k => k.trans (Kp0.of_below hb k.2.2.2.1)) w4 (Kp0.refl _ _ _))
    (fun h k => h.trans k) (fun W l o o' hl _ _ _ => Kp0.put W l o' hl) (Below.refl _ _) (fun _ => rfl)
    (fun pre W => ∃ v, Blk W w.heap.size 53 #[v] ∧ W.ownsRow w4.heap.size 23 1 v pre.length (pre.map (segV g)) ∧ Kp0 w4.heap.size w.heap.size w4 W)
    (fun _ _ _ => False) ?hI (fun _ _ _ _ _ h _ _ => h) ?h0
    (fun x => { tmps := #[.slice none 0 0, .func (.func 100) #[] #[.pointer (some ⟨bl, 0, none⟩), .pointer (some ⟨bb, 0, none⟩)], .pointer (some ⟨w.heap.size, 0, none⟩), undef, .slice none 0 0, .slice (some ⟨g, x.f, none⟩) (x.t - x.f) (x.t - x.f), .func (.func 100) #[] #[.pointer (some ⟨bl, 0, none⟩), .pointer (some ⟨bb, 0, none⟩)], .slice (some ⟨g, x.f, none⟩) (x.t - x.f) (x.t - x.f), undef, undef, undef, undef, undef], defers := [] }) ?assign ?body ?done ?stop
  case hI =>
    rintro s W W' row ⟨v, h1, h2, h4⟩ hgr hrow
    refine ⟨v, h1.grown hgr (fun e => ?_), h2.kept hgr ?_, h4.trans (Kp0.grown hgr h4.2.2.2.1 fun r e => (hrow r e).1)⟩
    · have := (hrow _ e.symm).1; omega
    · cases hv : v.ownBlock with
      | none => exact .inl rfl
      | some k =>
        refine .inr fun e => ?_
        obtain ⟨_, o, ho, hoc⟩ := hrow k e.symm
        rcases h2.2 with ⟨rfl, _⟩ | ⟨b, cap, cur, rfl, _, hh, _⟩
        · cases hv
        · injection hv with hv
          have hv : b = k := hv
          subst hv
          rw [ho] at hh
          injection hh with hh
          subst hh
          cases hoc
  case h0 => exact ⟨.slice none 0 0, H4.out.2, World.ownsRow_nil _ _ _ _, Kp0.refl _ _ _⟩
  case assign =>
    intro l x W K hK
    gi_wp2
    exact hK
  case body =>
    rintro l pre x W ⟨v, hO, hOw, hK⟩ hlen
    obtain ⟨a, t, hx1, hx2⟩ := x
    have hW4 : w4.heap.size ≤ W.heap.size := hK.2.2.2.1
    obtain ⟨m, hm⟩ : ∃ m, m = t - a := ⟨_, rfl⟩
    have HK := Lib.hid (And.intro hO (And.intro hOw (And.intro hK hm)))
    obtain ⟨i0, hi, hz0, hz1, hz2⟩ := info_parts infoLL
    have hc0 := hO.cell 0
    dsimp only
    rw [← hm]
    clear hO hOw hK hm
    gi_wp2_with (gi_at_builtin; refine wpListIn_append_own _ rfl (.tmp 8) (.tmp 10) 53 rfl w4.heap.size 23 i0 (.slice none 0 0) 1 24 Tryz.underlying53 hi hz0 hz1 hz2 rfl (by decide) v pre.length (pre.map (segV g)) rfl (HK.out.2.1.alloc _) ⟨W.heap.size, 0, none⟩ 1 1 [.slice (some ⟨g, a, none⟩) m m] rfl rfl ?c1 ?c2 ?c3 ?c4 ?c5 ?_)
    case c1 => exact fun j u hj => (by
      rw [addN, (Blk.new W 23 #[.slice (some ⟨g, a, none⟩) m m]).cell]
      simpa using hj)
    case c2 => intro u hu; simp only [List.mem_cons, List.not_mem_nil, or_false] at hu; subst hu; rfl
    case c3 => unfold maxLen; omega
    case c4 => omega
    case c5 => simp <;> omega
    intro v5 w5 hown5 hgr5 _
    obtain ⟨a5, c5, hv5⟩ := own_slice hown5
    have hOwA : (W.alloc (.cells #[.slice (some ⟨g, a, none⟩) m m] 23)).ownsRow w4.heap.size 23 1 v pre.length (pre.map (segV g)) := HK.out.2.1.alloc _
    have hOA : Blk (W.alloc (.cells #[.slice (some ⟨g, a, none⟩) m m] 23)) w.heap.size 53 #[v] := HK.out.1.alloc _
    have hne5 : some w.heap.size ≠ Value.ownBlock v := fun e => by
      have := own_base hOwA _ e.symm
      omega
    have hO5 := hOA.grown hgr5 hne5
    have d0 := hO5.cell 0
    have d1 := hO5.frozen 0
    have HFin : Hid (KeepsFrom w4.heap.size W (w5.setCell ⟨w.heap.size, 0, none⟩ v5) ∧ Kp0 w4.heap.size w.heap.size W (w5.setCell ⟨w.heap.size, 0, none⟩ v5) ∧ ∃ v, Blk (w5.setCell ⟨w.heap.size, 0, none⟩ v5) w.heap.size 53 #[v] ∧ (w5.setCell ⟨w.heap.size, 0, none⟩ v5).ownsRow w4.heap.size 23 1 v (pre ++ [(⟨a, t, hx1, hx2⟩ : Seg S.length)]).length ((pre ++ [(⟨a, t, hx1, hx2⟩ : Seg S.length)]).map (segV g)) ∧ Kp0 w4.heap.size w.heap.size w4 (w5.setCell ⟨w.heap.size, 0, none⟩ v5)) := by
      have hbW : Below W.heap.size W (W.alloc (.cells #[.slice (some ⟨g, a, none⟩) m m] 23)) := al (Below.refl _ _) _
      have k1 : Kp0 w4.heap.size w.heap.size W (w5.setCell ⟨w.heap.size, 0, none⟩ v5) := ((Kp0.of_below hbW hW4).trans (Kp0.grown hgr5 (by have := hbW.size; omega) fun r e => own_base hOwA r e)).trans (Kp0.set_ _ _ _)
      refine ⟨?_, k1, v5, ?_, ?_, HK.out.2.2.1.trans k1⟩
      · refine ((Kp0.keeps hbW).trans ((KeepsOthers.of_grownBy hgr5 fun j o e ho => ?_).from _)).trans ((KeepsOthers.setCell _ _ _).from _)
        rcases hOwA.2 with ⟨e0, _⟩ | ⟨b, cap, cur, e0, _, hh, _⟩
        · subst e0
          cases e
        · subst e0
          injection e with e
          have e : b = j := e
          subst e
          rw [hh] at ho
          injection ho with ho
          subst ho
          rfl
      · have := hO5.set_ 0 v5
        simpa using this
      · rw [List.length_append, List.map_append]
        have hsv : ([(⟨a, t, hx1, hx2⟩ : Seg S.length)].map (segV g)) = [.slice (some ⟨g, a, none⟩) m m] := by rw [HK.out.2.2.2]; rfl
        rw [hsv, hs4]
        refine World.ownsRow.kept hown5 (row := some w.heap.size) ⟨rfl, rfl, rfl, by simp [World.setCell], fun k _ hk => Below.heap_setCell w5 ⟨w.heap.size, 0, none⟩ v5 k (fun (e : k = w.heap.size) => hk (by rw [e]))⟩ ?_
        cases hv : Value.ownBlock v5 with
        | none => exact .inl rfl
        | some k =>
          refine .inr fun e => ?_
          injection e with e
          have := own_base hown5 k hv
          omega
    have hs5 : (W.alloc (.cells #[.slice (some ⟨g, a, none⟩) m m] 23)).heap.size ≤ w5.heap.size := hgr5.size
    subst hv5
    clear hown5 hgr5 hne5 hO5 hOwA hOA
    gi_wp2
    exact HFin.out
  case done =>
    rintro D xs W hD hxs ⟨v, hO, hOw, hK⟩ hDD
    have hcO := hO.cell 0
    have hDl : D < W.heap.size := by
      rcases Nat.lt_or_ge D W.heap.size with h' | h'
      · exact h'
      · rw [Array.getElem?_eq_none h'] at hDD; cases hDD
    have kp : Kp0 w4.heap.size w.heap.size w4 (W.putObj D (.deferred none)) := hK.trans (Kp0.put W D _ hD)
    have HR : Hid (∃ (v' : Value) (xs : List (Seg S.length)), Ending.returned v = .returned v' ∧ xs.map (fun x => x.of S) = runsOf c S ∧ (W.putObj D (.deferred none)).ownsRow w.heap.size 23 1 v' xs.length (xs.map (segV g)) ∧ Below w.heap.size w (W.putObj D (.deferred none))) :=
      ⟨v, xs, rfl, hxs, own_weaker (ownsRow_putObj hOw (.deferred none) hDD rfl) (by omega), H4.out.1.trans (kp.low (by omega))⟩
    clear kp hO hOw hxs hK
    gi_wp2
    refine ⟨by simp, .inl ⟨_, _, rfl, run_takeDeferred hDD, ?_⟩⟩
    exact ⟨_, results_tmp rfl _ _ _, by obtain ⟨v', xs, e, r⟩ := HR.out; exact ⟨v', xs, by rw [← e]; rfl, r⟩⟩
  case stop =>
    rintro D c pre W _ _ h _
    exact h.elim
theorem Collect_runs (bl bb g cap : Nat) (P : List V → Prop) (c : List V → List V → Int) (hc : WO c) (S : List (List V)) (hn : S.length ≤ 20000) (hcap : S.length ≤ cap) (hcm : cap ≤ maxLen) (w : World)
    (hRF : ∀ W, Below w.heap.size w W → RunF P c S bl bb g cap W) :
    Calls Tryz.prog 73 #[.func (.func 100) #[] #[.pointer (some ⟨bl, 0, none⟩), .pointer (some ⟨bb, 0, none⟩)]] w fun e w' => ∃ (v : Value) (xs : List (Seg S.length)), e = .returned v ∧ xs.map (fun x => x.of S) = runsOf c S ∧ w'.ownsRow w.heap.size 23 1 v xs.length (xs.map (segV g)) ∧ Below w.heap.size w w' := by
  have HC := Lib.hid (AppendSeq_runs bl bb g cap P c hc S hn hcap hcm w hRF)
  clear hRF
  go_enter Tryz.func73, Tryz.ntmps73
  go_wp2_with fail
  refine HC.out.mono ?_
  rintro e w1 ⟨v, xs, rfl, h1, h2, h3⟩
  have HZ := Lib.hid (And.intro h1 (And.intro h2 h3))
  clear h1 h2 h3
  go_wp2_with fail
  go_ret
  exact ⟨v, xs, rfl, HZ.out⟩
end Go.Proofs.YtapnnheggjahlaaGreatDoor
