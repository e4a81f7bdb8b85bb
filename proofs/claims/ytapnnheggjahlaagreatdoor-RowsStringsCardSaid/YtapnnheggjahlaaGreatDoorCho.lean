/-
  CONTRACT: rows.chosen: each different row of a as often as a function tells, in canonical order.
-/
import Derived.Test.YtapnnheggjahlaaGreatDoorRun
import Derived.Test.YtapnnheggjahlaaGreatDoorChoL
import Derived.RangeFuncNested
import Derived.RangeFuncBound
import Derived.RangeFuncCalls
import Derived.Maps.AppendAt
namespace Go.Proofs.YtapnnheggjahlaaGreatDoor
open Go.RowKit Go.Shelf
attribute [local go_sem] Oper.semAt_some

theorem runs_any (A : Option Addr) (n c : Nat) (gf : FuncId) (cb : Array Value) (w : World) :
    Calls Tryz.prog 74 #[.slice A n c, .func (.func gf) #[] cb] w fun e w' => e = .returned (.func (.func 100) #[] #[.pointer (some ⟨w.heap.size, 0, none⟩), .pointer (some ⟨w.heap.size + 1, 0, none⟩)]) ∧ w' = (w.alloc (.cells #[.slice A n c] 23)).alloc (.cells #[.func (.func gf) #[] cb] 100) := by
  go_enter Tryz.func74, Tryz.ntmps74
  go_wp2
  go_ret
  exact ⟨rfl, rfl⟩
theorem runs_stops (n : Nat) (bl bb g cap : Nat) (P : List V → Prop) (c : List V → List V → Int) (hc : WO c) (S : List (List V)) (hn : S.length ≤ 20000) (hcap : S.length ≤ cap) (hcm : cap ≤ maxLen)
    (Kp : World → World → Prop) (Fc : World → Prop) (hFR : ∀ W, Fc W → RunF P c S bl bb g cap W) (hFK : ∀ W W', Kp W W' → Fc W → Fc W') (hFB : ∀ W W', Below W.heap.size W W' → Fc W → Fc W') (w : World) (hF : Fc w) :
    SeqStopsK Fence.wide n Tryz.prog 100 #[.pointer (some ⟨bl, 0, none⟩), .pointer (some ⟨bb, 0, none⟩)] (fun x : Seg S.length => #[.slice (some ⟨g, x.f, none⟩) (x.t - x.f) (x.t - x.f)]) Kp (fun xs => xs.map (fun x => x.of S) = runsOf c S) (fun _ => True) S.length w :=
  fun l J Jx W hW hJ _ hY h0 => runs1_in n l bl bb g cap P c hc S hn hcap hcm Kp Fc hFR hFK hFB J Jx (fun pre W1 W2 h1 h2 => hJ pre W1 W2 none h1 h2 (fun r e => by cases e)) hY W (hFB _ _ hW hF) h0

/-- the function value fv computes f of two numbers -/
def IsTimes (f : Nat → Nat → Nat) (fv : Value) (w : World) : Prop :=
  ∃ gf cb, fv = .func (.func gf) #[] cb ∧ (∀ args W, (callFunc gf args).run Tryz.prog W = .ok (.enter gf args) W) ∧
    ∀ w1, Below w.heap.size w w1 → ∀ a b : Nat, a ≤ 20000 → b ≤ 20000 → Calls Tryz.prog gf (#[.int .i64 (a : Int), .int .i64 (b : Int)] ++ cb) w1 fun e w' => e = .returned (.int .i64 (f a b : Nat)) ∧ Below w1.heap.size w1 w'

theorem ordC_one : ordC [cmpR] = cmpR := by
  funext a b
  simp only [ordC, lexC]
  split
  · rename_i h; exact h.symm
  · rfl
abbrev PR (r : List V) : Prop := OkR r ∧ r.length ≤ maxLen
theorem pr_of {L : List (List V)} (h : FineL L) : ∀ r ∈ L, PR r := fun r hr => ⟨fun v hv => ((h r hr).2 v hv).1, by have := (h r hr).1; unfold maxLen; omega⟩
theorem ords_one {w : World} {g : Nat} {T : TypeId} (h : Blk w g T #[.func (.func 61) #[] #[]]) : Ords PR w (.slice (some ⟨g, 0, none⟩) 1 1) [cmpR] :=
  ⟨g, 0, 1, rfl, h.lt, fun j hj => ⟨_, by
    have : j = 0 := by simp at hj; omega
    subst this
    exact h.cell 0, by
    have : j = 0 := by simp at hj; omega
    subst this
    exact compare_isOrd w⟩⟩
set_option maxRecDepth 100000 in
set_option maxHeartbeats 2000000 in
theorem chosen_any (A A' : Option Addr) (c c' : Nat) (L L2 : List (List V)) (f : Nat → Nat → Nat) (fv : Value) (w : World) (hG : G w) (hr : LReads w w.heap.size A L) (hr2 : LReads w w.heap.size A' L2) (hf : FineL L) (hf2 : FineL L2) (hL : L.length ≤ 20000) (hL2 : L2.length ≤ 20000)
    (ht : IsTimes f fv w) (hfa : ∀ a b, 1 ≤ a → f a b ≤ a) :
    Calls Tryz.prog 67 #[.slice A L.length c, .slice A' L2.length c', fv] w fun e w' => ∃ v vs, e = .returned v ∧ w'.ownsRow w.heap.size 34 1 v (chooseR (fun n x => f n (cnt (rowS x) L2)) L).length vs ∧ OwnRs w' w.heap.size vs (chooseR (fun n x => f n (cnt (rowS x) L2)) L) ∧ Below w.heap.size w w' := by
  have HA := Lib.hid (And.intro hG (And.intro hr (And.intro hr2 (And.intro hf (And.intro hf2 (And.intro ht hfa))))))
  obtain ⟨gf, cb, rfl, -⟩ := ht
  clear hG hr hr2 hf hf2 hfa
  refine (callsIn_wide (n := 3)).1 ?_
  refine callsIn_of_wp_marks Tryz.func67 rfl trivial ?_ rfl
  simp only [Tryz.ntmps67, List.size_toArray, List.length_cons, List.length_nil, Nat.reduceAdd, Nat.reduceSub, Array.replicate_succ, Array.replicate_zero, List.push_toArray, List.append_toArray, List.nil_append, List.cons_append]
  gi_wp2
  refine ⟨trivial, (callsIn_wide.2 (counts_any A' c' L2 _ (HA.out.1.thn (al (Below.refl _ w) _)) (HA.out.2.2.1.below (al (Below.refl _ w) _) (by simp)) HA.out.2.2.2.2.1 hL2)).mono ?_⟩
  rintro e w1 ⟨bm, rfl, hbm, hcm, hbw1⟩
  have HM := Lib.hid (And.intro hbm (And.intro hcm (And.intro (thn (al (Below.refl _ w) _) hbw1) ((Blk.new w 97 #[.func (.func gf) #[] cb]).below hbw1 (by simp)))))
  have hsz1 : w.heap.size + 1 ≤ w1.heap.size := by have := hbw1.size; simpa using this
  clear hbm hcm hbw1
  gi_wp2
  have q3 : Below w.heap.size w (((w1.alloc (.cells #[.map (some bm)] 93)).alloc (.cells #[.slice none 0 0] 23)).alloc (.cells #[.func (.func 61) #[] #[]] 100)) := al (al (al HM.out.2.2.1 _) _) _
  have q4 : Ords PR (((w1.alloc (.cells #[.map (some bm)] 93)).alloc (.cells #[.slice none 0 0] 23)).alloc (.cells #[.func (.func 61) #[] #[]] 100)) (.slice (some ⟨w1.heap.size + 1 + 1, 0, none⟩) 1 1) [cmpR] := ords_one (Blk.new' (w := (w1.alloc (.cells #[.map (some bm)] 93)).alloc (.cells #[.slice none 0 0] 23)) (t := 100) (by simp))
  refine ⟨trivial, (callsIn_wide.2 (sorted_any PR [cmpR] (by rw [ordC_one]; exact cmpR_WO) (by rw [ordC_one]; exact cmpR_eq) (by simp) A c L _ _ (HA.out.2.1.below q3 q3.size) (pr_of HA.out.2.2.2.1) (fun r hr => (HA.out.2.2.2.1 r hr).1) hL q4 (fun _ => ⟨fun v hv => by simp at hv, by simp⟩))).mono ?_⟩
  rintro e w2 ⟨g, vs, rfl, hg, hblk, hown, hbw2⟩
  rw [ordC_one] at hown
  have HS := Lib.hid (And.intro hg (And.intro hblk (And.intro hown (And.intro hbw2 (thn q3 hbw2)))))
  have hsz2 : w1.heap.size + 3 ≤ w2.heap.size := by have := hbw2.size; simp at this; omega
  clear hg hblk hown hbw2 q3 q4
  gi_wp2
  refine ⟨trivial, (callsIn_wide.2 (runs_any _ _ _ _ _ _)).mono ?_⟩
  rintro e w3 ⟨rfl, rfl⟩
  gi_wp2
  obtain ⟨S, hS⟩ : ∃ S, S = canon L := ⟨_, rfl⟩
  have hSL : S.length = L.length := by rw [hS]; exact srtC_len _
  obtain ⟨hg, hblk, hown, hbw2, hww2⟩ := HS.out
  rw [show srtC cmpR L = S from hS.symm] at hown
  rw [show (((w1.alloc (.cells #[.map (some bm)] 93)).alloc (.cells #[.slice none 0 0] 23)).alloc (.cells #[.func (.func 61) #[] #[]] 100)).heap.size = w1.heap.size + 3 by simp] at hg hown
  have hw12 : Below w1.heap.size w1 w2 := thn (al (al (al (Below.refl _ w1) _) _) _) hbw2
  obtain ⟨w4, hw4⟩ : ∃ W, W = (w2.alloc (.cells #[.slice (some ⟨g, 0, none⟩) L.length L.length] 23)).alloc (.cells #[.func (.func 61) #[] #[]] 100) := ⟨_, rfl⟩
  have hb4 : Below w2.heap.size w2 w4 := by rw [hw4]; exact al (al (Below.refl _ _) _) _
  have hs4 : w4.heap.size = w2.heap.size + 2 := by rw [hw4]; simp
  have hgl := hblk.lt
  have c_bl : w4.cell? ⟨w2.heap.size, 0, none⟩ = some (.slice (some ⟨g, 0, none⟩) S.length S.length) := by
    rw [hw4, hSL]
    exact ((Blk.new w2 23 #[.slice (some ⟨g, 0, none⟩) L.length L.length]).alloc _).cell 0
  have c_bb : w4.cell? ⟨w2.heap.size + 1, 0, none⟩ = some (.func (.func 61) #[] #[]) := by
    rw [hw4]
    exact (Blk.new' (w := w2.alloc (.cells #[.slice (some ⟨g, 0, none⟩) L.length L.length] 23)) (g := w2.heap.size + 1) (t := 100) (cs := #[.func (.func 61) #[] #[]]) (by simp)).cell 0
  have blkg := hblk.below hb4 hgl
  have own4 := hown.below hb4
  have W2o := (((Blk.new' (w := w1.alloc (.cells #[.map (some bm)] 93)) (g := w1.heap.size + 1) (t := 23) (cs := #[.slice none 0 0]) (by simp)).alloc (.cells #[.func (.func 61) #[] #[]] 100)).below hbw2 (by first | (simp; omega) | simp)).below hb4 (by omega)
  have W2m := ((((Blk.new w1 93 #[.map (some bm)]).alloc (.cells #[.slice none 0 0] 23)).alloc (.cells #[.func (.func 61) #[] #[]] 100)).below hbw2 (by first | (simp; omega) | simp)).below hb4 (by omega)
  have h14 := thn hw12 hb4
  have cmap4 := HM.out.2.1.below h14
  have blkT := HM.out.2.2.2.below h14 (by omega)
  have G4 := HA.out.1.thn (thn hww2 hb4)
  have hPS : ∀ r ∈ S, PR r := fun r hr => pr_of HA.out.2.2.2.1 r (srtC_mem.1 (by rw [hS] at hr; exact hr))
  have hFS : FineL S := fun r hr => HA.out.2.2.2.1 r (srtC_mem.1 (by rw [hS] at hr; exact hr))
  have H4 := Lib.hid (And.intro c_bl (And.intro c_bb (And.intro blkg (And.intro own4 (And.intro W2o (And.intro W2m (And.intro cmap4 (And.intro blkT (And.intro G4 (And.intro hPS (And.intro hFS (thn hww2 hb4))))))))))))
  rw [← hw4]
  have HZ := Lib.hid (And.intro hw4 (And.intro hS hSL))
  have hSn : S.length ≤ 20000 := by omega
  have hgl4 : g < w4.heap.size := by omega
  have hgB : g ≠ w1.heap.size + 1 := by omega
  have hbml := HM.out.2.1.lt
  clear hw4 hS hblk hown hbw2 hww2 hw12 c_bl c_bb blkg own4 W2o W2m h14 cmap4 blkT G4 hPS hFS hb4 HS HM
  refine wpIn_rangeFunc_ownG rfl (by decide) (gf := 100) (lb := #[.pointer (some ⟨w2.heap.size, 0, none⟩), .pointer (some ⟨w2.heap.size + 1, 0, none⟩)]) rfl trivial (enters_of Tryz.func100 (by kernel_rfl) rfl)
    (runs_stops (3 - 1) w2.heap.size (w2.heap.size + 1) g S.length PR cmpR cmpR_WO S hSn (Nat.le_refl _) (by unfold maxLen; omega) (Kp0 w4.heap.size (w1.heap.size + 1)) (fun W => Kp0 w4.heap.size (w1.heap.size + 1) w4 W)
      (fun W hk => runsF_of hk (Nat.le_refl _) (base := w1.heap.size + 3) (by omega) (by omega) (by omega) (by omega) (by omega) (by omega) (by omega) H4.out.1 H4.out.2.1 H4.out.2.2.1 H4.out.2.2.2.1 H4.out.2.2.2.2.2.2.2.2.2.1)
      (fun W W' h k => k.trans h) (fun W W' hb k => k.trans (Kp0.of_below hb k.2.2.2.1)) w4 (Kp0.refl _ _ _))
    (fun h k => h.trans k) (fun W l o o' hl _ _ _ => Kp0.put W l o' hl) (Below.refl _ _) (fun _ => rfl)
    (fun pre W => ∃ v vsO, Blk W (w1.heap.size + 1) 23 #[v] ∧ W.ownsRow w4.heap.size 34 1 v vsO.length vsO ∧ OwnRs w4 (w1.heap.size + 3) vsO ((pre.map fun x => runTake f L2 (x.of S)).flatten) ∧ Kp0 w4.heap.size (w1.heap.size + 1) w4 W)
    (fun _ _ _ => False) ?hI (fun _ _ _ _ _ h _ _ => h) ?h0
    (fun x => { tmps := #[.slice A L.length c, .slice A' L2.length c', .func (.func gf) #[] cb, undef, undef, .pointer (some ⟨w.heap.size, 0, none⟩), .slice none 0 0, .pointer (some ⟨w1.heap.size, 0, none⟩), .pointer (some ⟨w1.heap.size + 1, 0, none⟩), .slice (some ⟨g, x.f, none⟩) (x.t - x.f) (x.t - x.f), undef, .slice A' L2.length c', .map (some bm), .slice A L.length c, .slice (some ⟨w1.heap.size + 1 + 1, 0, none⟩) 1 1, .slice (some ⟨g, 0, none⟩) L.length L.length, .func (.func 100) #[] #[.pointer (some ⟨w2.heap.size, 0, none⟩), .pointer (some ⟨w2.heap.size + 1, 0, none⟩)], .slice (some ⟨g, x.f, none⟩) (x.t - x.f) (x.t - x.f), undef, undef, undef, undef, undef, undef, undef, undef, undef, undef, undef, undef, undef, undef, undef, undef], defers := [] }) ?assign ?body ?done ?stop
  case hI =>
    rintro s W W' row ⟨v, vsO, h1, h2, h3, h4⟩ hgr hrow
    refine ⟨v, vsO, h1.grown hgr (fun e => ?_), h2.kept hgr ?_, h3, h4.trans (Kp0.grown hgr h4.2.2.2.1 fun r e => (hrow r e).1)⟩
    · have := (hrow _ e.symm).1; omega
    · cases hv : v.ownBlock with
      | none => exact .inl rfl
      | some k =>
        refine .inr fun e => ?_
        obtain ⟨_, o, ho, hoc⟩ := hrow k e.symm
        rcases h2.2 with ⟨rfl, _⟩ | ⟨b, cap, cur, rfl, _, hh, _⟩
        · cases hv
        · injection hv with hv
          have hv : b = k := hv
          subst hv
          rw [ho] at hh
          injection hh with hh
          subst hh
          cases hoc
  case h0 => exact ⟨.slice none 0 0, [], H4.out.2.2.2.2.1, World.ownsRow_nil _ _ _ _, OwnRs.nil _ _, Kp0.refl _ _ _⟩
  case assign =>
    intro l x W K hK
    gi_wp2
    exact hK
  case body =>
    rintro l pre x W ⟨v, vsO, hO, hOw, hRs, hK⟩ hlen
    obtain ⟨a, t, hx1, hx2⟩ := x
    have hla : a < S.length := by omega
    have hW4 : w4.heap.size ≤ W.heap.size := hK.2.2.2.1
    have hav : a < vs.length := by rw [H4.out.2.2.2.1.1]; exact hla
    have blkg := hK.blk hgl4 hgB H4.out.2.2.1
    have own := (H4.out.2.2.2.1.2 a vs[a] S[a] (by simp [hav]) (by simp [hla]))
    obtain ⟨Ah, ch, eh, _, _, vh, _⟩ := own_reads (hK.own (Nat.le_refl _) (by omega) own)
    have cg : W.cell? ⟨g, a, none⟩ = some (.slice Ah S[a].length ch) := by rw [blkg.cell a]; simp [hav, eh]
    have hcm : CMap W bm L2.length L2 := H4.out.2.2.2.2.2.2.1.same (hK.2.2.2.2 bm (by omega) (by omega))
    have bT := hK.blk (by omega) (by omega) H4.out.2.2.2.2.2.2.2.1
    have bM := hK.blk (by omega) (by omega) H4.out.2.2.2.2.2.1
    have hfine := H4.out.2.2.2.2.2.2.2.2.2.2.1 S[a] (List.getElem_mem hla)
    have hwW : Below w.heap.size w W := H4.out.2.2.2.2.2.2.2.2.2.2.2.trans ((hK.low (by omega)).mono (by omega))
    obtain ⟨m, hm⟩ : ∃ m, m = t - a := ⟨_, rfl⟩
    have hm0 : 0 < m := by omega
    have hm1 : m ≤ 20000 := by omega
    obtain ⟨q, hq⟩ : ∃ q, q = cnt (rowS S[a]) L2 := ⟨_, rfl⟩
    have hq1 : q ≤ 20000 := by have := cnt_le (rowS S[a]) L2; omega
    have hGW : G W := HA.out.1.thn hwW
    have X1 : ∀ x : Aft W, x.w.cell? ⟨w.heap.size, 0, none⟩ = some (.func (.func gf) #[] cb) := fun x => (x.h.cell (p := ⟨w.heap.size, 0, none⟩) (show w.heap.size < W.heap.size by omega)).trans (bT.cell 0)
    have X2 : ∀ x : Aft W, x.w.cell? ⟨w1.heap.size, 0, none⟩ = some (.map (some bm)) := fun x => (x.h.cell (p := ⟨w1.heap.size, 0, none⟩) (show w1.heap.size < W.heap.size by omega)).trans (bM.cell 0)
    have X3 : ∀ x : Aft W, x.w.cell? ⟨g, a, none⟩ = some (.slice Ah S[a].length ch) := fun x => (x.h.cell (p := ⟨g, a, none⟩) (show g < W.heap.size by omega)).trans cg
    have X4 : Hid (∀ x : Aft W, Calls Tryz.prog 66 #[.slice Ah S[a].length ch] x.w fun e w' => e = .returned (.string ⟨(rowS S[a]).toArray⟩) ∧ Below x.w.heap.size x.w w') := fun x => written_any Ah ch S[a] x.w (hGW.thn x.h) (vh.below x.h x.h.size) hfine.2 hfine.1
    have X5 : ∀ x : Aft W, (Instr.lookup 93 (.map (some bm)) (.string ⟨(rowS S[a]).toArray⟩) false).run Tryz.prog x.w = .ok (.int .i64 q) x.w := fun x => by rw [hq]; exact (hcm.below x.h).look S[a] hfine
    have X6 : Hid (∀ x : Aft W, Calls Tryz.prog gf (#[.int .i64 (m : Int), .int .i64 (q : Int)] ++ cb) x.w fun e w' => e = .returned (.int .i64 (f m q : Nat)) ∧ Below x.w.heap.size x.w w') := fun x => by
      obtain ⟨gf', cb', e, _, hc⟩ := HA.out.2.2.2.2.2.1
      injection e with e1 _ e2
      injection e1 with e1
      subst e1 e2
      exact hc x.w (thn hwW x.h) m q hm1 hq1
    have HK := Lib.hid (And.intro hO (And.intro hOw (And.intro hRs (And.intro hK (And.intro blkg (And.intro hwW (And.intro hm hq)))))))
    have heg : ∀ args W, (callFunc gf args).run Tryz.prog W = .ok (.enter gf args) W := by
      obtain ⟨gf', cb', e, he, _⟩ := HA.out.2.2.2.2.2.1
      injection e with e1 _ e2
      injection e1 with e1
      subst e1 e2
      exact he
    dsimp only
    rw [← hm]
    clear hO hOw hRs hK blkg own vh cg hcm bT bM hfine hwW hGW hm hq
    gi_wp2
    refine wpIn_region_aft (by kernel_rfl) (by kernel_rfl) (by kernel_rfl) (fun ⟨_, _, h⟩ => h) ?_
    repeat (go_big_quiet_step ((first | exact aft_call (X4.out _) | exact aft_call (X6.out _))))
    refine wpQuiet_nil ?_
    intro x9
    clear X1 X2 X3 X4 X5 X6 heg
    gi_wp2
    obtain ⟨hO, hOw, hRs, hK, blkg, hwW, hm, hq⟩ := HK.out
    have hO9 : Blk x9.w (w1.heap.size + 1) 23 #[v] := Blk.below hO x9.h hO.lt
    have hOw9 := own_below hOw x9.h
    have blkg9 := blkg.below x9.h blkg.lt
    have hkf := HA.out.2.2.2.2.2.2 m q hm0
    obtain ⟨kf, hkf2⟩ : ∃ kf, kf = f m q := ⟨_, rfl⟩
    rw [← hkf2] at hkf
    rw [← hkf2]
    have hvl9 : a + kf ≤ vs.length := by rw [H4.out.2.2.2.1.1]; omega
    have hrd := reads_sub blkg9 blkg9.lt a kf hvl9
    have hone := (H4.out.2.2.2.1.sub a kf).oneCell
    have HB9 := Lib.hid (And.intro hO9 (And.intro hOw9 (And.intro hrd (And.intro hone (And.intro hkf2 hvl9)))))
    have hsz9 := x9.h.size
    obtain ⟨ao, co, rfl⟩ := own_slice hOw9
    clear hO hOw hRs hK blkg hwW hm hq hO9 hOw9 blkg9 hkf2 hrd hone hvl9
    refine wpIn_region_grow (W := x9.w) 4 [[], [], [], [1, 2]] [] (fun i u _ => match i with
      | 0 => u = .slice ao vsO.length co
      | 1 => u = .slice (some ⟨g, a, none⟩) m m
      | 2 => u = .int .i64 (kf : Int)
      | _ => u = .slice (some ⟨g, a, none⟩) kf m) (by kernel_rfl) (by kernel_rfl) (by kernel_rfl) (fun ⟨_, _, h⟩ => h) ?hD ⟨?o0, ?o1, ?o2, ?o3, trivial⟩ ?fin
    case hD =>
      intro i u w1 w2 hb hd
      split at hd <;> exact hd
    case o0 =>
      refine growOne_of (pre := []) rfl ?_
      simp only [fillL, Act.put]
      intro f2 w' hb hp
      clear hp
      have c0 : w'.cell? ⟨w1.heap.size + 1, 0, none⟩ = some (.slice ao vsO.length co) := (hb.cell (p := ⟨w1.heap.size + 1, 0, none⟩) HB9.out.1.lt).trans (HB9.out.1.cell 0)
      go_wp2_with fail
      exact ⟨Below.refl _ _, rfl, fun h => by simp at h⟩
    case o1 =>
      refine growOne_of (pre := []) rfl ?_
      simp only [fillL, Act.put]
      intro f2 w' hb hp
      clear hp
      go_wp2_with fail
      exact ⟨Below.refl _ _, rfl, fun h => by simp at h⟩
    case o2 =>
      refine growOne_of (pre := []) rfl ?_
      simp only [fillL, Act.put]
      intro f2 w' hb hp
      clear hp
      go_wp2_with fail
      exact ⟨Below.refl _ _, rfl, fun h => by simp at h⟩
    case o3 =>
      refine growOne_of (pre := [1, 2]) rfl ?_
      simp only [fillL, Region.dstOf, List.getElem?_toArray, List.getElem?_cons_zero, List.getElem?_cons_succ, Option.bind_some, Act.put]
      intro f2 w' hb hp
      have e1 : f2 1 = .slice (some ⟨g, a, none⟩) m m := hp 1 (by decide)
      have e2 : f2 2 = .int .i64 (kf : Int) := hp 2 (by decide)
      clear hp
      rw [e1, e2]
      clear e1 e2
      have hmne : ¬ m = 0 := by omega
      go_wp2_with fail
      exact ⟨Below.refl _ _, rfl, fun h => by simp at h⟩
    case fin =>
      intro f2 w' hb hd _
      have e0 : f2 0 = .slice ao vsO.length co := hd 0 (by decide)
      have e1 : f2 1 = .slice (some ⟨g, a, none⟩) m m := hd 1 (by decide)
      have e2 : f2 2 = .int .i64 (kf : Int) := hd 2 (by decide)
      have e3 : f2 3 = .slice (some ⟨g, a, none⟩) kf m := hd 3 (by decide)
      clear hd
      rw [show List.range 4 = [0, 1, 2, 3] from rfl]
      simp only [fillL, Region.dstOf, List.getElem?_toArray, List.getElem?_cons_zero, List.getElem?_cons_succ, Option.bind_some, Act.put]
      rw [e0, e1, e2, e3]
      clear e0 e1 e2 e3
      obtain ⟨i0, hi, hz0, hz1, hz2⟩ := info_parts infoR
      have hOwA := own_below HB9.out.2.1 hb
      have hRdA := HB9.out.2.2.1.below hb
      have hbsz := hb.size
      have hOA : Blk w' (w1.heap.size + 1) 23 #[.slice ao vsO.length co] := Blk.below HB9.out.1 hb HB9.out.1.lt
      have hSb : vsO.length ≤ 400000000 := by
        rw [HK.out.2.2.1.1]
        have h1 := flat_len f L2 S rfl pre
        have h2 : pre.length * S.length ≤ 20000 * 20000 := Nat.mul_le_mul (by omega) hSn
        omega
      refine wpList_append_any _ rfl (.tmp 28) (.tmp 31) 23 rfl w4.heap.size 34 i0 (.slice none 0 0) 1 24 Tryz.underlying23 hi hz0 hz1 hz2 rfl (by decide) (.slice ao vsO.length co) vsO.length vsO rfl hOwA x9.w.heap.size (some ⟨g, a, none⟩) kf m ((vs.drop a).take kf) rfl hRdA HB9.out.2.2.2.1 ?c1 ?c2 ?c3 ?_
      case c1 => unfold maxLen; omega
      case c2 => omega
      case c3 => omega
      intro v2 w5 hown5 hgr5 _
      obtain ⟨a2, c2, rfl⟩ := own_slice hown5
      have hne5 : some (w1.heap.size + 1) ≠ Value.ownBlock (.slice ao vsO.length co) := fun e => by
        have := own_base hOwA _ e.symm
        omega
      have hO5 := hOA.grown hgr5 hne5
      have d0 := hO5.cell 0
      have d1 := hO5.frozen 0
      have hnl : (vsO ++ (vs.drop a).take kf).length = vsO.length + kf := by
        have := HB9.out.2.2.2.2.2
        simp
        omega
      have HFin : Hid (KeepsFrom w4.heap.size W (w5.setCell ⟨w1.heap.size + 1, 0, none⟩ (.slice a2 (vsO.length + kf) c2)) ∧ Kp0 w4.heap.size (w1.heap.size + 1) W (w5.setCell ⟨w1.heap.size + 1, 0, none⟩ (.slice a2 (vsO.length + kf) c2)) ∧ ∃ v vsP, Blk (w5.setCell ⟨w1.heap.size + 1, 0, none⟩ (.slice a2 (vsO.length + kf) c2)) (w1.heap.size + 1) 23 #[v] ∧ (w5.setCell ⟨w1.heap.size + 1, 0, none⟩ (.slice a2 (vsO.length + kf) c2)).ownsRow w4.heap.size 34 1 v vsP.length vsP ∧ OwnRs w4 (w1.heap.size + 3) vsP (((pre ++ [(⟨a, t, hx1, hx2⟩ : Seg S.length)]).map fun x => runTake f L2 (x.of S)).flatten) ∧ Kp0 w4.heap.size (w1.heap.size + 1) w4 (w5.setCell ⟨w1.heap.size + 1, 0, none⟩ (.slice a2 (vsO.length + kf) c2))) := by
        have hbW : Below W.heap.size W w' := thn x9.h hb
        have k1 : Kp0 w4.heap.size (w1.heap.size + 1) W (w5.setCell ⟨w1.heap.size + 1, 0, none⟩ (.slice a2 (vsO.length + kf) c2)) := ((Kp0.of_below hbW hW4).trans (Kp0.grown hgr5 (by omega) fun r e => own_base hOwA r e)).trans (Kp0.set_ _ _ _)
        refine ⟨?_, k1, .slice a2 (vsO.length + kf) c2, vsO ++ (vs.drop a).take kf, ?_, ?_, ?_, HK.out.2.2.2.1.trans k1⟩
        · refine ((Kp0.keeps hbW).trans ((KeepsOthers.of_grownBy hgr5 fun j o e ho => ?_).from _)).trans ((KeepsOthers.setCell _ _ _).from _)
          rcases hOwA.2 with ⟨e0, _⟩ | ⟨b, cap, cur, e0, _, hh, _⟩
          · injection e0 with e0
            subst e0
            cases e
          · injection e0 with e0
            subst e0
            injection e with e
            have e : b = j := e
            subst e
            rw [hh] at ho
            injection ho with ho
            subst ho
            rfl
        · have := hO5.set_ 0 (.slice a2 (vsO.length + kf) c2)
          simpa using this
        · rw [hnl]
          refine hown5.kept (row := some (w1.heap.size + 1)) ⟨rfl, rfl, rfl, by simp [World.setCell], fun k _ hk => Below.heap_setCell _ _ _ _ (fun e => hk (by simp [e]))⟩ ?_
          cases hv : Value.ownBlock (.slice a2 (vsO.length + kf) c2) with
          | none => exact .inl rfl
          | some k =>
            refine .inr fun e => ?_
            injection e with e
            have := own_base hown5 k hv
            omega
        · rw [List.map_append, List.flatten_append, List.map_cons, List.map_nil, List.flatten_cons, List.flatten_nil, List.append_nil]
          have hfk : f (t - a) (cnt (rowS S[a]) L2) = kf := by rw [HB9.out.2.2.2.2.1, ← HK.out.2.2.2.2.2.2.2, ← HK.out.2.2.2.2.2.2.1]
          have hrt := run_take f L2 S rfl (⟨a, t, hx1, hx2⟩ : Seg S.length) hla (by show f (t - a) (cnt (rowS S[a]) L2) ≤ t - a; rw [hfk]; have := HK.out.2.2.2.2.2.2.1; omega)
          rw [hrt, hfk]
          exact HK.out.2.2.1.app (H4.out.2.2.2.1.sub a kf)
      clear hown5 hgr5 hne5 hO5 hnl hOwA hRdA hOA
      go_wp2_with fail
      exact HFin
  case done =>
    rintro D xs W hD hxs ⟨v, vsO, hO, hOw, hRs, hK⟩ hDD
    have hcO := hO.cell 0
    have hW4 : w4.heap.size ≤ W.heap.size := hK.2.2.2.1
    obtain ⟨ao, co, rfl⟩ := own_slice hOw
    have hDl : D < W.heap.size := by
      rcases Nat.lt_or_ge D W.heap.size with h' | h'
      · exact h'
      · rw [Array.getElem?_eq_none h'] at hDD; cases hDD
    have hout : ((xs.map fun x => runTake f L2 (x.of S)).flatten) = chooseR (fun n x => f n (cnt (rowS x) L2)) L := by
      have e1 : (xs.map fun x => runTake f L2 (x.of S)) = (runsOf cmpR S).map (runTake f L2) := by rw [← hxs, List.map_map]; rfl
      rw [e1, HZ.out.2.1]
      exact choose_runs (fun n x => f n (cnt (rowS x) L2)) L
    rw [hout] at hRs
    have kp : Kp0 w4.heap.size (w1.heap.size + 1) w4 (W.putObj D (.deferred none)) := hK.trans (Kp0.put W D _ hD)
    have HR : Hid (∃ v vs, Ending.returned (.slice ao vsO.length co) = .returned v ∧ (W.putObj D (.deferred none)).ownsRow w.heap.size 34 1 v (chooseR (fun n x => f n (cnt (rowS x) L2)) L).length vs ∧ OwnRs (W.putObj D (.deferred none)) w.heap.size vs (chooseR (fun n x => f n (cnt (rowS x) L2)) L) ∧ Below w.heap.size w (W.putObj D (.deferred none))) := by
      refine ⟨_, vsO, rfl, ?_, (kp.owns (Nat.le_refl _) (by omega) hRs).weaker (by omega), H4.out.2.2.2.2.2.2.2.2.2.2.2.trans ((kp.low (by omega)).mono (by omega))⟩
      rw [← hRs.1]
      exact own_weaker (ownsRow_putObj hOw (.deferred none) hDD rfl) (by omega)
    clear hout hRs kp hO hOw hxs hK
    gi_wp2
    refine ⟨by simp, .inl ⟨_, _, rfl, run_takeDeferred hDD, ?_⟩⟩
    exact ⟨_, results_tmp rfl _ _ _, by obtain ⟨v, vs, e, r⟩ := HR.out; exact ⟨v, vs, by rw [← e]; rfl, r⟩⟩
  case stop =>
    rintro D c pre W _ _ h _
    exact h.elim
end Go.Proofs.YtapnnheggjahlaaGreatDoor
