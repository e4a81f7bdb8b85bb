/-
  Grp: CONTRACT: rows.Groups, for any rows and places.
  RAt: CONTRACT of the reference's At; lists of groups in memory.
  RGr: CONTRACT of the reference's Groups.
-/
import Derived.Test.YtapnnheggjahlaaGreatDoorGP
import Derived.Test.YtapnnheggjahlaaGreatDoorLRD
import Derived.Maps.AppendAt
import Derived.Test.YtapnnheggjahlaaGreatDoorNice
import Derived.Test.YtapnnheggjahlaaGreatDoorRfM
namespace Go.Proofs.YtapnnheggjahlaaGreatDoor
open Go.RowKit

theorem checkKeys_any (A : Option Addr) (c : Nat) (L : List (List V)) (Ak : Option Addr) (ck : Nat) (ks : List (Int × Bool)) (w : World) (hr : LReads w w.heap.size A L) (hi : InL L) (hk : KReads w w.heap.size Ak ks) (hkl : ks.length ≤ 1000000) :
    Calls Tryz.prog 71 #[.slice A L.length c, .slice Ak ks.length ck] w fun e w' => ∃ v, e = .returned (.tuple #[v, .int .i64 (ordE L ks)]) ∧
      (ordE L ks = 0 → ∃ ds Ad cd, v = .slice Ad ds.length cd ∧ KReads w' w'.heap.size Ad (kI ds) ∧ ds.length ≤ 1000000 ∧ (∀ r ∈ L, ∀ k ∈ ds, k.1 < r.length) ∧ (L = [] → ds = []) ∧ (L = [] ∨ cmpKs ds = cmpKs (natK ks))) ∧ (ordE L ks ≠ 0 → v = .slice none 0 0) ∧ Below w.heap.size w w' := by
  by_cases hz : chkR [L] = 0
  · by_cases hne : L = []
    · subst hne
      rw [ordE_nil hz]
      have q := checkKeys_none A c [] Ak ck ks.length w hr hi (.inl rfl)
      rw [hz] at q
      exact q.mono fun e w' ⟨h1, h2⟩ => ⟨_, h1, fun _ => ⟨[], none, 0, rfl, (fun h => by simp [kI] at h), by simp, (fun r h => by cases h), fun _ => rfl, .inl rfl⟩, fun h => absurd rfl h, h2⟩
    · have f1 := fine_of hz (L := L) (by simp) hi
      by_cases hp : ∀ k ∈ ks, 0 ≤ k.1 ∧ k.1 < (sh L : Int)
      · have e0 : ordE L ks = 0 := ordE_place hz ((places_keys hne f1.2.2).2 hp)
        rw [e0]
        have e1 := kI_natK fun k hk => (hp k hk).1
        have q := checkKeys_ok A c L Ak ck (natK ks) w hr hi hz hne (by rw [e1]; exact hk) (by rw [natK_len]; exact hkl) fun k hk => by
          obtain ⟨k', hk', rfl⟩ := natK_mem hk
          have := hp k' hk'
          show k'.1.toNat < sh L
          omega
        rw [natK_len] at q
        refine q.mono fun e w' ⟨v, h1, h2, h3⟩ => ⟨v, h1, fun _ => ?_, fun h => absurd rfl h, h3⟩
        obtain ⟨Ad, cd, rfl, hkr⟩ := own_kreads h2
        refine ⟨dedK (natK ks), Ad, cd, rfl, hkr, Nat.le_trans (dedK_len _) (by rw [natK_len]; exact hkl), fun r hr k hk => ?_, fun h => absurd h hne, .inr (cmpKs_ded _)⟩
        obtain ⟨k', hk', rfl⟩ := natK_mem (dedK_mem k hk)
        have h1 := hp k' hk'
        have h2 := sh_le hr
        show k'.1.toNat < r.length
        omega
      · obtain ⟨a, k, b, rfl, h1, h2⟩ := first_bad hp
        have e1 : ordE L (kI a ++ k :: b) = 1 := ordE_none hz (by
          cases h : placesB L ((kI a ++ k :: b).map (·.1)) with
          | false => rfl
          | true => exact absurd ((places_keys hne f1.2.2).1 h) hp)
        rw [e1]
        exact (checkKeys_arg A c L Ak ck _ a k b w hr hi hz hne hk (by simp [kI]) hkl h1 h2).mono fun e w' ⟨h3, h4⟩ => ⟨_, h3, fun h => absurd h (by omega), fun _ => rfl, h4⟩
  · rw [ordE_bad hz]
    exact (checkKeys_none A c L Ak ck ks.length w hr hi (.inr hz)).mono fun e w' ⟨h1, h2⟩ => ⟨_, h1, fun h => absurd h hz, fun _ => rfl, h2⟩

theorem kcellsI_app (a b : List (Int × Bool)) : kcellsI (a ++ b) = kcellsI a ++ kcellsI b := by simp [kcellsI]
theorem kcellsI_cons (k : Int × Bool) (b : List (Int × Bool)) : kcellsI (k :: b) = .int .i64 k.1 :: .bool k.2 :: kcellsI b := by simp [kcellsI]
theorem kcellsI_set (a : List (Int × Bool)) (p q : Int) (d : Bool) (b : List (Int × Bool)) : (kcellsI (a ++ (p, d) :: b)).toArray.setIfInBounds (a.length * 2) (.int .i64 q) = (kcellsI (a ++ (q, d) :: b)).toArray := by
  rw [kcellsI_app, kcellsI_app, kcellsI_cons, kcellsI_cons, List.setIfInBounds_toArray]
  congr 1
  rw [← kcellsI_len a, List.set_append_right _ _ (Nat.le_refl _), Nat.sub_self]
  rfl
theorem kreads_blk {w : World} {g B : Nat} {T : TypeId} {ks : List (Int × Bool)} (h : Blk w g T (kcellsI ks).toArray) (hg : g < B) : KReads w B (some ⟨g, 0, none⟩) ks := fun _ => by
  refine ⟨g, 0, rfl, hg, fun i k hi => ?_⟩
  obtain ⟨h1, h2⟩ := kcellsI_at ks i k hi
  rw [h.cell, h.cell, Nat.zero_add]
  exact ⟨by simpa using h1, by simpa using h2⟩
def noK (n : Nat) : List (Int × Bool) := List.replicate n (0, false)
theorem noK_len (n : Nat) : (kcellsI (noK n)).length = n * 2 := by rw [kcellsI_len]; simp [noK]
theorem madeK (n : Nat) : madeCells (Value.agg #[.int .i64 0, .bool false]).cells (n * 2) = (kcellsI (noK n)).toArray := by
  apply Array.ext
  · simp [madeCells, noK_len]
  · intro j h1 h2
    have hj : j < n * 2 := by simpa [madeCells] using h1
    obtain ⟨i, hi⟩ := half j
    have hin : i < n := by omega
    obtain ⟨k0, k1⟩ := kcellsI_at (noK n) i (0, false) (by simp [noK, hin])
    rcases hi with rfl | rfl
    · obtain ⟨_, e⟩ := List.getElem?_eq_some_iff.1 k0
      rw [show (kcellsI (noK n)).toArray[i * 2]'h2 = Value.int .i64 0 from e]
      simp [madeCells, Value.cells]
    · obtain ⟨_, e⟩ := List.getElem?_eq_some_iff.1 k1
      rw [show (kcellsI (noK n)).toArray[i * 2 + 1]'h2 = Value.bool false from e]
      simp [madeCells, Value.cells, Nat.add_mod]
theorem makeK (n : Nat) (hn : n ≤ 1000000) (W : World) : (Instr.makeSlice 58 (.int .i64 (n : Int)) (.int .i64 (n : Int))).run Tryz.prog W = .ok (.slice (some ⟨W.heap.size, 0, none⟩) n n) (W.alloc (.cells (kcellsI (noK n)).toArray 61)) := by
  obtain ⟨i0, hi, hz0, hz1, hz2⟩ := info_parts infoK
  have h := run_make (P := Tryz.prog) (w := W) 58 61 i0 (.agg #[.int .i64 0, .bool false]) Tryz.underlying58 hi hz0 .i64 .i64 (n : Int) (n : Int) (by omega) (Int.le_refl _) (by rw [hz2]; omega) (by omega)
  rw [hz1] at h
  simp only [Int.toNat_natCast] at h
  rw [madeK] at h
  exact h
/-- places as keys -/
def pK (ps : List Int) : List (Int × Bool) := ps.map fun p => (p, false)
theorem pK_len (ps : List Int) : (pK ps).length = ps.length := List.length_map ..
theorem pK_fst (ps : List Int) : (pK ps).map (·.1) = ps := by simp [pK, Function.comp_def]
theorem pK_step {ps : List Int} {k : Nat} (h : k < ps.length) : (kcellsI (pK (ps.take k) ++ noK (ps.length - k))).toArray.setIfInBounds (k * 2) (.int .i64 ps[k]) = (kcellsI (pK (ps.take (k + 1)) ++ noK (ps.length - (k + 1)))).toArray := by
  have e1 : noK (ps.length - k) = (0, false) :: noK (ps.length - (k + 1)) := by
    unfold noK
    rw [show ps.length - k = (ps.length - (k + 1)) + 1 by omega, List.replicate_succ]
  have e2 : (pK (ps.take k)).length = k := by rw [pK_len, List.length_take]; omega
  have := kcellsI_set (pK (ps.take k)) 0 ps[k] false (noK (ps.length - (k + 1)))
  rw [e2] at this
  rw [e1, this, List.take_succ_eq_append_getElem h]
  unfold pK
  rw [List.map_append, List.append_assoc]
  rfl
/-- a list of groups, as it came out -/
def GOut (w w' : World) (v : Value) (c : List V → List V → Int) (S : List (List V)) : Prop :=
  ∃ g vs, ∃ xs : List (Seg S.length), w.heap.size ≤ g ∧ Blk w' g 34 vs.toArray ∧ OwnRs w' w.heap.size vs S ∧ xs.map (fun x => x.of S) = runsOf c S ∧ w'.ownsRow w.heap.size 23 1 v xs.length (xs.map (segV g))
set_option maxHeartbeats 2000000 in
theorem Groups_any (A : Option Addr) (c : Nat) (L : List (List V)) (Ap : Option Addr) (cp : Nat) (ps : List Int) (w : World) (hr : LReads w w.heap.size A L) (hi : InL L) (hp : IReads w w.heap.size Ap ps) (hpl : ps.length ≤ 1000000) :
    Calls Tryz.prog 39 #[.slice A L.length c, .slice Ap ps.length cp] w fun e w' => ∃ v, e = .returned (.tuple #[v, .int .i64 (ordE L (pK ps))]) ∧ (ordE L (pK ps) = 0 → ∃ ds, (L = [] ∨ cmpKs ds = cmpKs (natK (pK ps))) ∧ GOut w w' v (cmpKs ds) (srtC (cmpKR ds) L)) ∧ (ordE L (pK ps) ≠ 0 → v = .slice none 0 0) ∧ Below w.heap.size w w' := by
  have HA := Lib.hid (And.intro hr (And.intro hi hp))
  have hn0 : ¬ (ps.length : Int) < 0 := by omega
  have hmk := makeK ps.length hpl
  clear hr hi hp
  obtain ⟨q, hqq⟩ : ∃ q, q = ordE L (pK ps) := ⟨_, rfl⟩
  rw [← hqq]
  have HQQ := Lib.hid hqq
  clear hqq
  go_enter Tryz.func39, Tryz.ntmps39
  go_wp2
  clear hmk hn0
  go_loopw [16] (fun i wr => ∃ k : Nat, k ≤ ps.length ∧ i = .int .i64 k ∧ Hid (Blk wr w.heap.size 61 (kcellsI (pK (ps.take k) ++ noK (ps.length - k))).toArray ∧ Below w.heap.size w wr)) (fun i _ => ps.length - (intOf i).toNat)
  case atStart => exact ⟨0, Nat.zero_le _, rfl, Blk.new _ _ _, al (Below.refl _ _) _⟩
  case round =>
    obtain ⟨k, hk, rfl, HI⟩ := hrel
    by_cases hlt : k < ps.length
    · obtain ⟨b, o, rfl, hblk, hcell⟩ := (HA.out.2.2.below HI.out.2 HI.out.2.size).at_ hlt
      have hsz : k * 2 < (kcellsI (pK (ps.take k) ++ noK (ps.length - k))).length := by
        rw [kcellsI_len, List.length_append, pK_len, List.length_take]; simp [noK]; omega
      have d0 := HI.out.1.cell (k * 2)
      rw [show (kcellsI (pK (ps.take k) ++ noK (ps.length - k))).toArray[k * 2]? = some ((kcellsI (pK (ps.take k) ++ noK (ps.length - k)))[k * 2]) by simp [hsz]] at d0
      have d1 := HI.out.1.frozen (k * 2)
      have HN : Hid (Blk (wr.setCell ⟨w.heap.size, k * 2, none⟩ (.int .i64 ps[k])) w.heap.size 61 (kcellsI (pK (ps.take (k + 1)) ++ noK (ps.length - (k + 1)))).toArray ∧ Below w.heap.size w (wr.setCell ⟨w.heap.size, k * 2, none⟩ (.int .i64 ps[k]))) := by
        refine ⟨?_, HI.out.2.setCell (Nat.le_refl _) _⟩
        rw [← pK_step hlt]
        exact HI.out.1.set_ _ _
      have hki : (k : Int) < (ps.length : Int) := by omega
      generalize (kcellsI (pK (ps.take k) ++ noK (ps.length - k)))[k * 2] = z0 at *
      clear hsz
      go_wp2_with fail
      go_roundw
      case rel => exact ⟨k + 1, by omega, by go_num, HN⟩
      case measure => simp [intOf]; omega
    · have hkn : k = ps.length := by omega
      subst hkn
      have HK : Hid (KReads wr wr.heap.size (some ⟨w.heap.size, 0, none⟩) (pK ps) ∧ Below w.heap.size w wr ∧ (pK ps).length ≤ 1000000) := by
        have h := HI.out.1
        rw [List.take_of_length_le (Nat.le_refl _), Nat.sub_self, show noK 0 = [] from rfl, List.append_nil] at h
        exact ⟨kreads_blk h h.lt, HI.out.2, by rw [pK_len]; exact hpl⟩
      have HC := Lib.hid (checkKeys_any A c L (some ⟨w.heap.size, 0, none⟩) ps.length (pK ps) wr (HA.out.1.below HK.out.2.1 HK.out.2.1.size) HA.out.2.1 HK.out.1 HK.out.2.2)
      rw [pK_len, ← HQQ.out] at HC
      clear HI
      go_wp2_with fail
      refine HC.out.mono ?_
      rintro e w2 ⟨v, rfl, h1, h2, hb⟩
      have HV := Lib.hid (And.intro h1 (And.intro h2 (thn HK.out.2.1 hb)))
      clear h1 h2 hb HC
      by_cases hq : q = 0
      · have hq0 : (q != 0) = false := by simp [hq]
        obtain ⟨ds, Ad, cd, hv, hkr, hdl, hin, hnil, hde⟩ := HV.out.1 hq
        subst hv
        have hz : chkR [L] = 0 := Classical.byContradiction fun h => h ((ordE_bad h).symm.trans (HQQ.out.symm.trans hq))
        have f1 := fine_of hz (L := L) (by simp) HA.out.2.1
        have HD := Lib.hid (And.intro hkr (And.intro hdl (And.intro hin (And.intro hnil (And.intro hde (And.intro f1 (InL.okR f1.1 f1.2.2)))))))
        clear hkr hdl hin hnil hde hz f1
        subst hq
        go_wp2_with fail
        refine (byKeys_any _ _ _ w2).mono ?_
        rintro e w3 ⟨rfl, rfl⟩
        go_wp2_with fail
        obtain ⟨hkr, hdl, hin, hnil, hde, f1, hok⟩ := HD.out
        have q1 := Blk.new w2 58 #[.slice Ad ds.length cd]
        have q2 := Blk.new (w2.alloc (.cells #[.slice Ad ds.length cd] 58)) 100 #[.func (.func 98) #[] #[.pointer (some ⟨w2.heap.size, 0, none⟩)], .func (.func 61) #[] #[]]
        rw [show (w2.alloc (.cells #[.slice Ad ds.length cd] 58)).heap.size = w2.heap.size + 1 by simp] at q2
        have b1 : Below w2.heap.size w2 ((w2.alloc (.cells #[.slice Ad ds.length cd] 58)).alloc (.cells #[.func (.func 98) #[] #[.pointer (some ⟨w2.heap.size, 0, none⟩)], .func (.func 61) #[] #[]] 100)) := al (al (Below.refl _ _) _) _
        refine (sorted_any (KOk ds) [cmpKs ds, cmpR] (by rw [ordC_two]; exact cmpKR_WO _) (fun a b h => by rw [ordC_two] at h; exact cmpKR_eq a b h) (by simp) A c L _ _ (HA.out.1.below (thn HV.out.2.2 b1) (thn HV.out.2.2 b1).size) (fun r h => ⟨hok r h, hin r h⟩) (fun r h => by have := f1.2.2 r h; omega) f1.2.1 ⟨_, 0, 2, rfl, by simp, fun j hj => ?_⟩ (fun h => ⟨⟨(fun v hv => by cases hv), by simp⟩, (fun k hk => by rw [hnil h] at hk; cases hk)⟩)).mono ?_
        · match j, hj with
          | 0, _ => exact ⟨_, q2.cell 0, byKeys_isOrd ds w2.heap.size _ Ad cd _ (q1.alloc _) (hkr.below b1 b1.size) hdl⟩
          | 1, _ => exact ⟨_, q2.cell 1, (compare_isOrd _).imp fun r h => h.1⟩
        rintro e w3 ⟨g, vs, rfl, hg, hb, hrs, hb3⟩
        rw [ordC_two] at hrs
        have hsz := (thn HV.out.2.2 b1).size
        have HO := Lib.hid (And.intro (Nat.le_trans hsz hg) (And.intro hb (And.intro (hrs.weaker hsz) (And.intro (thn (thn HV.out.2.2 b1) hb3) (And.intro ((q1.alloc _).below hb3 (by simp; omega)) (hkr.below (thn b1 hb3) (thn b1 hb3).size))))))
        have hsz3 : w2.heap.size < w3.heap.size := by have := hb3.size; simp at this; omega
        clear hg hb hrs hb3 q1 q2 b1 hok hkr hsz
        go_wp2_with fail
        refine (runs_any _ _ _ _ _ w3).mono ?_
        rintro e w4 ⟨rfl, rfl⟩
        go_wp2_with fail
        obtain ⟨S, hS⟩ : ∃ S, S = srtC (cmpKR ds) L := ⟨_, rfl⟩
        have hSL : S.length = L.length := by rw [hS]; exact srtC_len _
        obtain ⟨w5, hw5⟩ : ∃ W, W = (w3.alloc (.cells #[.slice (some ⟨g, 0, none⟩) L.length L.length] 23)).alloc (.cells #[.func (.func 98) #[] #[.pointer (some ⟨w2.heap.size, 0, none⟩)]] 100) := ⟨_, rfl⟩
        have hb5 : Below w3.heap.size w3 w5 := by rw [hw5]; exact al (al (Below.refl _ _) _) _
        have c_bl : Blk w5 w3.heap.size 23 #[.slice (some ⟨g, 0, none⟩) S.length L.length] := by
          rw [hw5, hSL]
          exact (Blk.new w3 23 #[.slice (some ⟨g, 0, none⟩) L.length L.length]).alloc _
        have c_bb : Blk w5 (w3.heap.size + 1) 100 #[.func (.func 98) #[] #[.pointer (some ⟨w2.heap.size, 0, none⟩)]] := by
          rw [hw5]
          exact Blk.new' (w := w3.alloc (.cells #[.slice (some ⟨g, 0, none⟩) L.length L.length] 23)) (g := w3.heap.size + 1) (t := 100) (by simp)
        rw [← hS] at HO
        have hgl := HO.out.2.1.lt
        have H5 := Lib.hid (And.intro c_bl (And.intro c_bb (And.intro (HO.out.2.1.below hb5 hgl) (And.intro (HO.out.2.2.1.below hb5) (And.intro (thn HO.out.2.2.2.1 hb5) (And.intro (HO.out.2.2.2.2.1.below hb5 hsz3) (HO.out.2.2.2.2.2.below hb5 hb5.size)))))))
        rw [← hw5]
        have HSS := Lib.hid hS
        have hgw := HO.out.1
        have hlim : L.length ≤ 20000 := f1.2.1
        clear hw5 hb5 c_bl c_bb hS HO hgl
        refine (Collect_runs w3.heap.size (w3.heap.size + 1) g L.length (KOk ds) (cmpKs ds) (cmpKs_WO ds) S (by omega) (by omega) (by unfold maxLen; omega) w5 fun W hW => ?_).mono ?_
        · refine ⟨(H5.out.1.below hW H5.out.1.lt).cell 0, ?_, fun i hi => ?_⟩
          · obtain ⟨gf, cb, e, he, hc⟩ := byKeys_isOrd ds w2.heap.size _ Ad cd w5 H5.out.2.2.2.2.2.1 H5.out.2.2.2.2.2.2 hdl
            injection e with e1 _ e2
            injection e1 with e1
            subst e1 e2
            exact ⟨_, _, (H5.out.2.1.below hW H5.out.2.1.lt).cell 0, he, fun A A' c1 c2 a b => hc W hW A A' c1 c2 a b⟩
          · have hov := H5.out.2.2.2.1
            have hiv : i < vs.length := by rw [hov.1]; exact hi
            have ho := ((hov.below hW).2 i vs[i] S[i] (by simp [hiv]) (by simp [hi]))
            obtain ⟨Ah, ch, eh, _, _, vh, _⟩ := own_reads ho
            have cg := (H5.out.2.2.1.below hW H5.out.2.2.1.lt).cell i
            have hm : S[i] ∈ L := srtC_mem.1 (by rw [← HSS.out]; exact List.getElem_mem hi)
            exact ⟨Ah, ch, by rw [cg]; simp [hiv, eh], vh, ⟨by have := HD.out.2.2.2.2.2.2 _ hm; exact this, hin _ hm⟩⟩
        rintro e w6 ⟨v, xs, rfl, hxs, hown, hb6⟩
        have HF : Hid (GOut w w6 v (cmpKs ds) S ∧ Below w.heap.size w w6) := ⟨⟨g, vs, xs, hgw, H5.out.2.2.1.below hb6 H5.out.2.2.1.lt, H5.out.2.2.2.1.below hb6, hxs, own_weaker hown H5.out.2.2.2.2.1.size⟩, thn H5.out.2.2.2.2.1 hb6⟩
        clear hown hb6 hxs
        go_wp2_with fail
        go_ret2
        exact ⟨v, rfl, ⟨ds, hde, by rw [← HSS.out]; exact HF.out.1⟩, HF.out.2⟩
      · have hq0 : (q != 0) = true := by simp [hq]
        have hv := HV.out.2.1 hq
        subst hv
        have HQ := Lib.hid hq
        clear hq
        go_wp2_with fail
        go_ret2
        exact ⟨_, rfl, fun h => absurd h HQ.out, fun _ => rfl, HV.out.2.2⟩
end Go.Proofs.YtapnnheggjahlaaGreatDoor
namespace Go.Proofs.YtapnnheggjahlaaGreatDoor
open Go.RowKit

def natP (ps : List Int) : List Nat := ps.map Int.toNat
theorem natP_len (ps : List Int) : (natP ps).length = ps.length := List.length_map ..
theorem atR_len (ps : List Nat) (r : List V) : (atR ps r).length = ps.length := List.length_map ..
theorem natK_pK (ps : List Int) : natK (pK ps) = kR (natP ps) := by simp [natK, pK, kR, natP, Function.comp_def]
theorem atR_snoc (ps : List Int) (r : List V) {j : Nat} (h : j < ps.length) (h1 : ps[j].toNat < r.length) : atR (natP (ps.take (j + 1))) r = atR (natP (ps.take j)) r ++ [r[ps[j].toNat]] := by
  rw [List.take_succ_eq_append_getElem h]
  unfold natP atR
  rw [List.map_append, List.map_append]
  congr 1
  simp [h1]
set_option maxHeartbeats 400000 in
theorem RAt_any (A A' : Option Addr) (c c' : Nat) (r : List V) (ps : List Int) (w : World) (hr : VReads w w.heap.size A r) (hf : VFit r) (hn : r.length ≤ maxLen) (hp : IReads w w.heap.size A' ps) (hpl : ps.length ≤ 1000000) (hb : ∀ p ∈ ps, plB p r.length = true) :
    Calls Tryz.prog 49 #[.slice A r.length c, .slice A' ps.length c'] w fun e w' => ∃ v, e = .returned v ∧ OwnR w' w.heap.size v (atR (natP ps) r) ∧ Below w.heap.size w w' := by
  have HA := Lib.hid (And.intro hr (And.intro hf (And.intro hp hb)))
  have hn := Nat.le_trans hn (Nat.le_refl _)
  unfold maxLen at hn
  obtain ⟨i0, hi, hz0, hz1, hz2⟩ := info_parts infoV
  clear hr hf hp hb
  go_enter Tryz.func49, Tryz.ntmps49
  go_wp2_with fail
  go_loopw [5, 6] (fun v i wr => ∃ j : Nat, j ≤ ps.length ∧ i = .int .i64 j ∧ Hid (wr.ownsRow w.heap.size 78 3 v j (vcells (atR (natP (ps.take j)) r)) ∧ Below w.heap.size w wr)) (fun _ i _ => ps.length - (intOf i).toNat)
  case atStart => exact ⟨0, Nat.zero_le _, rfl, ⟨rfl, .inl ⟨rfl, rfl⟩⟩, Below.refl _ _⟩
  case round =>
    obtain ⟨j, hj, rfl, HI⟩ := hrel
    by_cases hlt : j < ps.length
    · obtain ⟨b, o, rfl, hblk, hcell⟩ := (HA.out.2.2.1.below HI.out.2 HI.out.2.size).at_ hlt
      obtain ⟨p0, p1⟩ := plB_true (HA.out.2.2.2 ps[j] (List.getElem_mem hlt))
      have hm1 : ps[j].toNat < r.length := by omega
      have hme : ps[j] = (ps[j].toNat : Int) := by omega
      have HE := Lib.hid (atR_snoc ps r hlt hm1)
      rw [hme] at hcell
      obtain ⟨b2, o2, rfl, hblk2, c0, c1, c2⟩ := (HA.out.1.below HI.out.2 HI.out.2.size).at_ hm1
      have hji : (j : Int) < (ps.length : Int) := by omega
      have HX : Hid (r[ps[j].toNat] = r[ps[j].toNat]) := rfl
      clear p0 p1 hme HX
      generalize r[ps[j].toNat] = x at *
      generalize ps[j].toNat = m at *
      have hmi : (m : Int) < (r.length : Int) := by omega
      go_wp2_with (at_builtin; refine wpList_append_any _ rfl (.tmp 13) (.tmp 21) 34 rfl w.heap.size 78 i0 (.agg #[.int .i64 0, .int .i64 0, .string ⟨#[]⟩]) 3 32 Tryz.underlying34 hi hz0 hz1 hz2 rfl (by decide) _ _ _ rfl (HI.out.1.alloc _) (wr.heap.size + 1) _ 1 1 (vcells [x]) rfl ?c0 ?c1 ?c2 ?c3 ?c4 ?_)
      case c0 => exact (VReads.one (Blk.new' (g := wr.heap.size) rfl) (Nat.lt_succ_self _)).reads
      case c1 => exact vcells_one _
      case c2 => unfold maxLen; omega
      case c3 => omega
      case c4 => have := HI.out.2.size; simp <;> omega
      intro v' w1 hown1 hgrow _
      have HN : Hid (w1.ownsRow w.heap.size 78 3 v' (j + 1) (vcells (atR (natP (ps.take (j + 1))) r)) ∧ Below w.heap.size w w1) := by
        refine ⟨?_, (al HI.out.2 _).grown hgrow (by have := HI.out.2.size; simp <;> omega) (own_base HI.out.1)⟩
        rw [HE.out, vcells_append]
        exact hown1
      clear hown1 hgrow HE
      go_wp2_with fail
      go_roundw
      case rel => exact ⟨j + 1, by omega, by go_num, HN⟩
      case measure => simp [intOf]; omega
    · have hje : j = ps.length := by omega
      subst hje
      have HR : Hid (OwnR wr w.heap.size u5 (atR (natP ps) r)) := by
        have h := HI.out.1
        rw [List.take_of_length_le (Nat.le_refl _)] at h
        show wr.ownsRow _ _ _ _ _ _
        rw [atR_len, natP_len]
        exact h
      go_wp2_with fail
      go_ret
      exact ⟨u5, rfl, HR.out, HI.out.2⟩

/-- a list of groups is read -/
def GReads (w : World) (B : Nat) (A : Option Addr) (Gs : List (List (List V))) : Prop :=
  0 < Gs.length → ∃ b o, A = some ⟨b, o, none⟩ ∧ b < B ∧ ∀ i L, Gs[i]? = some L → ∃ Ar c, w.cell? ⟨b, o + i, none⟩ = some (.slice Ar L.length c) ∧ LReads w B Ar L
theorem GReads.below {w w' : World} {B B' : Nat} {A : Option Addr} {Gs : List (List (List V))} (h : GReads w B A Gs) (hb : Below B w w') (hB : B ≤ B') : GReads w' B' A Gs := fun h0 => by
  obtain ⟨b, o, rfl, hblk, hc⟩ := h h0
  refine ⟨b, o, rfl, by omega, fun i r hi => ?_⟩
  obtain ⟨Ar, c, h1, h3⟩ := hc i r hi
  exact ⟨Ar, c, (hb.cell (p := ⟨b, _, none⟩) hblk).trans h1, h3.below hb hB⟩
theorem GReads.at_ {w : World} {B : Nat} {A : Option Addr} {Gs : List (List (List V))} (h : GReads w B A Gs) {i : Nat} (hi : i < Gs.length) : ∃ b o Ar c, A = some ⟨b, o, none⟩ ∧ b < B ∧ w.cell? ⟨b, o + i, none⟩ = some (.slice Ar Gs[i].length c) ∧ LReads w B Ar Gs[i] := by
  obtain ⟨b, o, rfl, hblk, hc⟩ := h (by omega)
  obtain ⟨Ar, c, h1, h3⟩ := hc i _ (List.getElem?_eq_getElem hi)
  exact ⟨b, o, Ar, c, rfl, hblk, h1, h3⟩
theorem seg_lreads {w : World} {B g : Nat} {S : List (List V)} (h : LReads w B (some ⟨g, 0, none⟩) S) (x : Seg S.length) : LReads w B (some ⟨g, x.f, none⟩) (x.of S) := by
  have h2 := (h.drop x.f)
  rw [Nat.zero_add] at h2
  exact h2.take _
/-- what the program's groups read as -/
theorem GOut.greads {w w' : World} {v : Value} {c : List V → List V → Int} {S : List (List V)} (h : GOut w w' v c S) : ∃ A cap, v = .slice A (runsOf c S).length cap ∧ GReads w' w'.heap.size A (runsOf c S) := by
  obtain ⟨g, vs, xs, hg, hb, hrs, hxs, ho⟩ := h
  obtain ⟨A, cap, rfl⟩ := own_slice ho
  have hl : xs.length = (runsOf c S).length := by rw [← hxs, List.length_map]
  refine ⟨A, cap, by rw [hl], fun h0 => ?_⟩
  obtain ⟨ad, hA, hlt, hc⟩ := (Reads.of_own ho).2 (by omega)
  subst hA
  have hp : ∃ b, ad = ⟨b, 0, none⟩ := by
    rcases ho.2 with ⟨h1, _⟩ | ⟨g, cap, cur, h1, _⟩
    · cases h1
    · cases h1; exact ⟨_, rfl⟩
  obtain ⟨b, rfl⟩ := hp
  refine ⟨b, 0, rfl, hlt, fun i L hi => ?_⟩
  rw [← hxs, List.getElem?_map] at hi
  cases hx : xs[i]? with
  | none => rw [hx] at hi; cases hi
  | some x =>
    rw [hx] at hi
    have hL : x.of S = L := Option.some.inj hi
    have h2 := hc i (segV g x) (by rw [List.getElem?_map, hx]; rfl)
    rw [addN] at h2
    have hlen := seg_len x S rfl
    refine ⟨some ⟨g, x.f, none⟩, x.t - x.f, ?_, ?_⟩
    · rw [h2, ← hL, hlen]; rfl
    · rw [← hL]; exact seg_lreads (hrs.lreads hb) x
end Go.Proofs.YtapnnheggjahlaaGreatDoor
namespace Go.Proofs.YtapnnheggjahlaaGreatDoor
open Go.RowKit

/-- a group of rows whose list is the walk's own -/
def OwnG (w : World) (base B : Nat) (v : Value) (Gi : List (List V)) : Prop := ∃ hs, w.ownsRow base 34 1 v Gi.length hs ∧ RowsR w B hs Gi
def OwnGs (w : World) (base B : Nat) (vs : List Value) (Gs : List (List (List V))) : Prop := vs.length = Gs.length ∧ ∀ (i : Nat) (v : Value) (Gi : List (List V)), vs[i]? = some v → Gs[i]? = some Gi → OwnG w base B v Gi
theorem OwnGs.nil (w : World) (base B : Nat) : OwnGs w base B [] [] := ⟨rfl, fun i v r h => by simp at h⟩
theorem OwnG.below {w w' : World} {base B : Nat} {v : Value} {Gi : List (List V)} (h : OwnG w base B v Gi) (hb : Below w.heap.size w w') (hB : B ≤ w.heap.size) : OwnG w' base B v Gi := by
  obtain ⟨hs, h1, h2⟩ := h
  exact ⟨hs, own_below h1 hb, h2.below (hb.mono hB)⟩
theorem OwnGs.below {w w' : World} {base B : Nat} {vs : List Value} {Gs : List (List (List V))} (h : OwnGs w base B vs Gs) (hb : Below w.heap.size w w') (hB : B ≤ w.heap.size) : OwnGs w' base B vs Gs :=
  ⟨h.1, fun i v r hv hr => (h.2 i v r hv hr).below hb hB⟩
theorem OwnGs.snoc {w : World} {base B : Nat} {vs : List Value} {Gs : List (List (List V))} {v : Value} {Gi : List (List V)} (h : OwnGs w base B vs Gs) (hv : OwnG w base B v Gi) : OwnGs w base B (vs ++ [v]) (Gs ++ [Gi]) := by
  refine ⟨by simp [h.1], fun i u r hu hr => ?_⟩
  by_cases hi : i < vs.length
  · rw [List.getElem?_append_left hi] at hu
    rw [List.getElem?_append_left (by rw [← h.1]; exact hi)] at hr
    exact h.2 i u r hu hr
  · rw [List.getElem?_append_right (by omega)] at hu
    rw [List.getElem?_append_right (by rw [← h.1]; omega), ← h.1] at hr
    match e : i - vs.length with
    | 0 =>
      rw [e] at hu hr
      cases hu; cases hr; exact hv
    | j + 1 => rw [e] at hu; simp at hu
theorem OwnG.kept {w w' : World} {base B : Nat} {u v : Value} {Gi : List (List V)} (h : OwnG w base B v Gi) (hg : w.grownBy w' u.ownBlock) (ha : v.ownBlock = none ∨ v.ownBlock ≠ u.ownBlock) (hB : B ≤ w.heap.size) (hu : ∀ g, u.ownBlock = some g → B ≤ g) : OwnG w' base B v Gi := by
  obtain ⟨hs, h1, h2⟩ := h
  exact ⟨hs, h1.kept hg ha, h2.grown hg hB hu⟩
theorem OwnGs.kept {w w' : World} {base B : Nat} {u : Value} {vs : List Value} {Gs : List (List (List V))} (h : OwnGs w base B vs Gs) (ha : Apart u vs) (hg : w.grownBy w' u.ownBlock) (hB : B ≤ w.heap.size) (hu : ∀ g, u.ownBlock = some g → B ≤ g) : OwnGs w' base B vs Gs :=
  ⟨h.1, fun i v r hv hr => (h.2 i v r hv hr).kept hg (ha v (List.mem_of_getElem? hv)) hB hu⟩
theorem OwnGs.lt {w : World} {base B : Nat} {vs : List Value} {Gs : List (List (List V))} (h : OwnGs w base B vs Gs) : ∀ x ∈ vs, ∀ k, x.ownBlock = some k → base ≤ k ∧ k < w.heap.size := fun x hx k hk => by
  obtain ⟨i, hi, e⟩ := List.getElem_of_mem hx
  obtain ⟨hs, h1, -⟩ := h.2 i x (Gs[i]'(by rw [← h.1]; exact hi)) (by simp [hi, e]) (by simp [show i < Gs.length by rw [← h.1]; exact hi])
  exact h1.lt k hk
theorem Apart.appG {w : World} {base B : Nat} {u u' : Value} {vs : List Value} {Gs : List (List (List V))} {n : Nat} (h : OwnGs w base B vs Gs) (ha : Apart u vs) (hn : w.heap.size ≤ n) (hu : u'.ownBlock = u.ownBlock ∨ u'.ownBlock = some n) : Apart u' vs := fun x hx => by
  rcases hu with e | e
  · rw [e]; exact ha x hx
  · rw [e]
    cases hk : x.ownBlock with
    | none => exact .inl rfl
    | some k =>
      refine .inr fun e2 => ?_
      cases e2
      have := (h.lt x hx _ hk).2
      omega
theorem OwnGs.greads {w : World} {base B b2 : Nat} {v : Value} {vs : List Value} {Gs : List (List (List V))} (ho : w.ownsRow b2 23 1 v Gs.length vs) (h : OwnGs w base B vs Gs) (hB : B ≤ w.heap.size) : ∃ A c, v = .slice A Gs.length c ∧ GReads w w.heap.size A Gs := by
  obtain ⟨A, c, rfl⟩ := own_slice ho
  refine ⟨A, c, rfl, fun h0 => ?_⟩
  obtain ⟨ad, hA, hlt, hc⟩ := (Reads.of_own ho).2 h0
  subst hA
  have hp : ∃ b, ad = ⟨b, 0, none⟩ := by
    rcases ho.2 with ⟨h1, _⟩ | ⟨g, cap, cur, h1, _⟩
    · cases h1
    · cases h1; exact ⟨_, rfl⟩
  obtain ⟨b, rfl⟩ := hp
  refine ⟨b, 0, rfl, hlt, fun i L hi => ?_⟩
  have hiv : i < vs.length := by
    rw [h.1]
    rcases Nat.lt_or_ge i Gs.length with h' | h'
    · exact h'
    · rw [List.getElem?_eq_none h'] at hi; cases hi
  have hx : vs[i]? = some vs[i] := List.getElem?_eq_getElem hiv
  obtain ⟨hs, g1, g2⟩ := h.2 i _ L hx hi
  obtain ⟨Ar, cr, e, hl⟩ := own_lreads g1 g2 hB
  have h2 := hc i _ hx
  rw [addN] at h2
  exact ⟨Ar, cr, by rw [h2, e], hl⟩
/-- what the region with At and Compare holds -/
def dGrp (s : Value) (k : Nat) (pk : Addr) (r p : Value) (R1 : List V) (h : Value) (i : Nat) (pi : Addr) (hi : Value) (q : Int) : Nat → Value → World → Prop
  | 0, v, _ => v = s
  | 1, v, _ => v = .int .i64 (k : Nat)
  | 2, v, _ => v = .pointer (some pk)
  | 3, v, _ => v = r
  | 4, v, _ => v = p
  | 5, v, w => ∃ Ah ch, v = .slice Ah R1.length ch ∧ VReads w w.heap.size Ah R1
  | 6, v, _ => v = h
  | 7, v, _ => v = .int .i64 (i : Nat)
  | 8, v, _ => v = .pointer (some pi)
  | 9, v, _ => v = hi
  | 10, v, _ => v = .int .i64 q
  | _, v, _ => v = .bool (q == 0)
theorem dGrp_below {s : Value} {k : Nat} {pk : Addr} {r p : Value} {R1 : List V} {h : Value} {i : Nat} {pi : Addr} {hi : Value} {q : Int} (j : Nat) (v : Value) (w1 w2 : World) (hb : Below w1.heap.size w1 w2) (hd : dGrp s k pk r p R1 h i pi hi q j v w1) : dGrp s k pk r p R1 h i pi hi q j v w2 := by
  unfold dGrp at hd ⊢
  split at hd <;> first | exact hd | (obtain ⟨Ah, ch, h1, h2⟩ := hd; exact ⟨Ah, ch, h1, h2.below hb hb.size⟩)

theorem filter_snoc {S : List (List V)} {k : Nat} (h : k < S.length) (p : List V → Bool) : (S.take (k + 1)).filter p = (S.take k).filter p ++ if p S[k] then [S[k]] else [] := by
  rw [List.take_succ_eq_append_getElem h, List.filter_append, List.filter_cons, List.filter_nil]
set_option maxHeartbeats 4000000 in
set_option maxRecDepth 100000 in
theorem RGroups_any (A A' : Option Addr) (c c' : Nat) (L : List (List V)) (ps : List Int) (w : World) (hr : LReads w w.heap.size A L) (hf : ∀ r ∈ L, r.length ≤ 1000000 ∧ VFit r) (hc : L.length ≤ c) (hn : L.length ≤ 1000000) (hp : IReads w w.heap.size A' ps) (hpl : ps.length ≤ 1000000) (hpb : placesB L ps = true) :
    Calls Tryz.prog 41 #[.slice A L.length c, .slice A' ps.length c'] w fun e w' => ∃ Ag cg, e = .returned (.slice Ag (groupsR (natP ps) L).length cg) ∧ GReads w' w'.heap.size Ag (groupsR (natP ps) L) ∧ Below w.heap.size w w' := by
  have HA := Lib.hid (And.intro hr (And.intro hf (And.intro hp hpb)))
  have HC := Lib.hid hc
  obtain ⟨i0, hi, hz0, hz1, hz2⟩ := info_parts infoR
  obtain ⟨j0, hj, jz0, jz1, jz2⟩ := info_parts infoLL
  clear hr hf hp hpb hc
  go_enter Tryz.func41, Tryz.ntmps41
  go_wp2_with fail
  refine (RCanonical_any A c L w HA.out.1 HA.out.2.1 HC.out hn).mono ?_
  rintro e w1 ⟨AS, cS, rfl, hl, hb⟩
  have HS : Hid (LReads w1 w1.heap.size AS (canon L) ∧ Below w.heap.size w w1 ∧ IReads w1 w1.heap.size A' ps) := ⟨hl, hb, HA.out.2.2.1.below hb hb.size⟩
  have HF : Hid ((∀ r ∈ canon L, r.length ≤ 1000000 ∧ VFit r) ∧ (∀ r ∈ canon L, ∀ p ∈ ps, plB p r.length = true)) := ⟨fun r h => HA.out.2.1 r (srtC_mem.1 h), fun r h => List.all_eq_true.1 (List.all_eq_true.1 HA.out.2.2.2 r (srtC_mem.1 h))⟩
  have HG : Hid (groupsR (natP ps) L = (ddR (canon ((canon L).map (atR (natP ps))))).map fun h => (canon L).filter fun r => decide (atR (natP ps) r = h)) := rfl
  have hSl : (canon L).length = L.length := srtC_len _
  rw [← hSl] at hn
  clear hl hb
  rw [← hSl]
  clear hSl
  generalize canon L = S at *
  clear HA HC
  go_wp2_with fail
  go_loopw [6, 7] (fun v i wr => ∃ k : Nat, k ≤ S.length ∧ i = .int .i64 k ∧ Hid (∃ vs, wr.ownsRow w1.heap.size 34 1 v k vs ∧ OwnRs wr w1.heap.size vs ((S.take k).map (atR (natP ps))) ∧ Apart v vs ∧ Below w1.heap.size w1 wr)) (fun _ i _ => S.length - (intOf i).toNat)
  case atStart => exact ⟨0, Nat.zero_le _, rfl, [], ⟨rfl, .inl ⟨rfl, rfl⟩⟩, OwnRs.nil _ _, fun x hx => (by cases hx), Below.refl _ _⟩
  case round =>
    obtain ⟨k, hk, rfl, HI⟩ := hrel
    by_cases hlt : k < S.length
    · obtain ⟨vs, hown, hrs, hap, hbw⟩ := HI.out
      obtain ⟨b, o, Ar, cr, rfl, hblk, hc, -, hv⟩ := (HS.out.1.below hbw hbw.size).at_ hlt
      have HO := Lib.hid (And.intro hown (And.intro hrs (And.intro hap (And.intro hbw (And.intro hv (HS.out.2.2.below hbw hbw.size))))))
      have HX := Lib.hid (And.intro (HF.out.1 S[k] (List.getElem_mem hlt)) (HF.out.2 S[k] (List.getElem_mem hlt)))
      have hki : (k : Int) < (S.length : Int) := by omega
      clear hown hrs hap hbw hv HI
      go_wp2_with fail
      refine (RAt_any Ar A' cr c' S[k] ps wr HO.out.2.2.2.2.1 HX.out.1.2 (by have := HX.out.1.1; unfold maxLen; omega) HO.out.2.2.2.2.2 hpl HX.out.2).mono ?_
      rintro e w2 ⟨v, rfl, hvo, hvb⟩
      obtain ⟨a1, c1, rfl⟩ := own_slice hvo
      have hsz := hvb.size
      have HT : Hid ((S.take (k + 1)).map (atR (natP ps)) = (S.take k).map (atR (natP ps)) ++ [atR (natP ps) S[k]]) := by
        show _ = _
        rw [List.take_succ_eq_append_getElem hlt, List.map_append]; rfl
      generalize atR (natP ps) S[k] = y at *
      have q1 := Blk.new w2 34 #[.slice a1 y.length c1]
      have q2 := sread_one q1 (B := w2.heap.size + 1) (by omega)
      have hul := HO.out.1.lt
      have H1 := Lib.hid (And.intro ((own_below HO.out.1 hvb).alloc (.cells #[.slice a1 y.length c1] 34)) (And.intro q2 (And.intro hvo (And.intro hvb hul))))
      clear hvo hvb q1 q2 hul
      go_wp2_with (at_builtin; refine wpList_append_any _ rfl (.tmp 20) (.tmp 27) 23 rfl w1.heap.size 34 i0 (.slice none 0 0) 1 24 Tryz.underlying23 hi hz0 hz1 hz2 rfl (by decide) _ _ _ rfl H1.out.1 (w2.heap.size + 1) _ 1 1 [.slice a1 y.length c1] rfl H1.out.2.1 ?c1 ?c2 ?c3 ?c4 ?_)
      case c1 => intro u hu; simp only [List.mem_cons, List.not_mem_nil, or_false] at hu; subst hu; rfl
      case c2 => unfold maxLen; omega
      case c3 => omega
      case c4 => have := HO.out.2.2.2.1.size; simp <;> omega
      intro v2 w3 hown2 hgr2 hu2
      have HN : Hid (∃ vs, w3.ownsRow w1.heap.size 34 1 v2 (k + 1) vs ∧ OwnRs w3 w1.heap.size vs ((S.take (k + 1)).map (atR (natP ps))) ∧ Apart v2 vs ∧ Below w1.heap.size w1 w3) := by
        obtain ⟨x1, x2, x3, x4, x5⟩ := H1.out
        obtain ⟨y1, y2, y3, y4, -⟩ := HO.out
        have z1 := (OwnRs.snoc (y2.below x4) (own_weaker x3 y4.size)).below (al (Below.refl _ _) (.cells #[.slice a1 y.length c1] 34))
        have z2 : Apart u6 (vs ++ [.slice a1 y.length c1]) := fun x hx => by
          rcases List.mem_append.1 hx with h | h
          · exact y3 x h
          · simp only [List.mem_cons, List.not_mem_nil, or_false] at h
            subst h
            cases hb : Value.ownBlock (.slice a1 y.length c1) with
            | none => exact .inl rfl
            | some g =>
              refine .inr fun e => ?_
              have := (x3.lt g hb).1
              have := (x5 g e.symm).2
              omega
        rw [HT.out]
        refine ⟨_, hown2, z1.kept z2 hgr2, Apart.app z1 z2 (n := w2.heap.size + 1) (by simp) hu2, ((thn y4 x4).alloc (by have := y4.size; omega) _).grown hgr2 (by have := y4.size; simp <;> omega) (own_base H1.out.1)⟩
      clear hown2 hgr2 hu2 HT
      go_wp2_with fail
      go_roundw
      case rel => exact ⟨k + 1, by omega, by go_num, HN⟩
      case measure => simp [intOf]; omega
    · have hkn : k = S.length := by omega
      subst hkn
      obtain ⟨vs, hown, hrs, -, hbw⟩ := HI.out
      rw [List.take_of_length_le (Nat.le_refl _)] at hrs
      have hlm : (S.map (atR (natP ps))).length = S.length := List.length_map ..
      obtain ⟨A6, c6, rfl, hl⟩ := OutR.lreads (w := w1) ⟨vs, by rw [hlm]; exact hown, hrs⟩
      have hcap : (S.map (atR (natP ps))).length ≤ c6 := own_cap (by rw [← hlm] at hown; exact hown)
      have HB := Lib.hid (And.intro hl (And.intro hbw hcap))
      have hq := RDistinct_any A6 c6 (S.map (atR (natP ps))) wr hl (fun r hr => by
        obtain ⟨x, hx, rfl⟩ := List.mem_map.1 hr
        refine ⟨by rw [atR_len, natP_len]; exact hpl, fun v hv => ?_⟩
        obtain ⟨p, hp, rfl⟩ := List.mem_map.1 hv
        have h1 := (HF.out.1 x hx).2
        obtain ⟨p', hp', rfl⟩ := List.mem_map.1 hp
        obtain ⟨p0, p1⟩ := plB_true (HF.out.2 x hx p' hp')
        have hm : p'.toNat < x.length := by omega
        rw [List.getElem?_eq_getElem hm]
        exact h1 _ (List.getElem_mem hm)) hcap (by rw [hlm]; exact hn)
      rw [hlm] at hq ⊢
      have HQ := Lib.hid hq
      clear hown hrs hl hbw hcap hq hlm HI
      go_wp2_with fail
      refine HQ.out.mono ?_
      rintro e w2 ⟨AH, cH, rfl, hl, hb⟩
      have H2 : Hid (LReads w2 w2.heap.size AH (ddR (canon (S.map (atR (natP ps))))) ∧ Below w1.heap.size w1 w2) := ⟨hl, thn HB.out.2.1 hb⟩
      have H3 : Hid ((∀ r ∈ ddR (canon (S.map (atR (natP ps)))), r.length ≤ 1000000 ∧ VFit r) ∧ (ddR (canon (S.map (atR (natP ps))))).length ≤ S.length) := ⟨fun r hr => by
        obtain ⟨x, hx, rfl⟩ := List.mem_map.1 (srtC_mem.1 (ddR_mem hr))
        refine ⟨by rw [atR_len, natP_len]; exact hpl, fun v hv => ?_⟩
        obtain ⟨p, hp, rfl⟩ := List.mem_map.1 hv
        have h1 := (HF.out.1 x hx).2
        obtain ⟨p', hp', rfl⟩ := List.mem_map.1 hp
        obtain ⟨p0, p1⟩ := plB_true (HF.out.2 x hx p' hp')
        have hm : p'.toNat < x.length := by omega
        rw [List.getElem?_eq_getElem hm]
        exact h1 _ (List.getElem_mem hm), Nat.le_trans (ddR_len _) (by rw [srtC_len, List.length_map]; exact Nat.le_refl _)⟩
      have hHS := H3.out.2
      clear hl hb HB HQ
      generalize ddR (canon (S.map (atR (natP ps)))) = H at *
      generalize hgr : (fun h => S.filter fun r => decide (atR (natP ps) r = h)) = grp at *
      have HGR := Lib.hid hgr
      clear hgr
      go_wp2_with fail
      go_loopw [8, 9] (fun v ii wr => ∃ i : Nat, i ≤ H.length ∧ ii = .int .i64 i ∧ Hid (∃ vs, wr.ownsRow w2.heap.size 23 1 v i vs ∧ OwnGs wr w2.heap.size w1.heap.size vs ((H.take i).map grp) ∧ Apart v vs ∧ Below w2.heap.size w2 wr)) (fun _ ii _ => H.length - (intOf ii).toNat)
      case atStart => exact ⟨0, Nat.zero_le _, rfl, [], ⟨rfl, .inl ⟨rfl, rfl⟩⟩, OwnGs.nil _ _ _, fun x hx => (by cases hx), Below.refl _ _⟩
      case round =>
        obtain ⟨i, hi1, rfl, HI⟩ := hrel
        by_cases hli : i < H.length
        · obtain ⟨vs, hown, hrs, hap, hbw⟩ := HI.out
          have HO := Lib.hid (And.intro hown (And.intro hrs (And.intro hap hbw)))
          have h12 := (thn H2.out.2 hbw)
          have HV := Lib.hid (And.intro (HS.out.1.below h12 h12.size) (And.intro (H2.out.1.below hbw hbw.size) (And.intro (HS.out.2.2.below h12 h12.size) h12)))
          have hii : (i : Int) < (H.length : Int) := by omega
          clear hown hrs hap hbw h12 HI
          generalize wr = w3 at *
          go_wp2_with fail
          go_loopw [10, 11] (fun v kk wi => ∃ (k : Nat) (F : List (List V)), k ≤ S.length ∧ kk = .int .i64 k ∧ F.length ≤ k ∧ Hid (F = (S.take k).filter fun r => decide (atR (natP ps) r = H[i])) ∧ Hid (∃ hs, wi.ownsRow w3.heap.size 34 1 v F.length hs ∧ RowsR wi w1.heap.size hs F ∧ Below w3.heap.size w3 wi)) (fun _ kk _ => S.length - (intOf kk).toNat)
          case atStart => exact ⟨0, [], Nat.zero_le _, rfl, Nat.le_refl _, rfl, [], ⟨rfl, .inl ⟨rfl, rfl⟩⟩, ⟨rfl, fun i r h => by cases h⟩, Below.refl _ _⟩
          case round =>
            obtain ⟨k, F, hk, rfl, hFk, HFe, HJ⟩ := hrel
            by_cases hlt : k < S.length
            · obtain ⟨hs, hown, hRR, hbw⟩ := HJ.out
              have hsr := HV.out.1.below hbw hbw.size
              have hhr := HV.out.2.1.below hbw hbw.size
              obtain ⟨bs, os, Ar, cr, rfl, hblk, hcell, hpl1, hv⟩ := hsr.at_ hlt
              obtain ⟨bh, oh, Ai, ci, rfl, hblkh, hcellh, hpl2, hvh⟩ := hhr.at_ hli
              have HX := Lib.hid (And.intro (HF.out.1 S[k] (List.getElem_mem hlt)) (And.intro (HF.out.2 S[k] (List.getElem_mem hlt)) (H3.out.1 H[i] (List.getElem_mem hli))))
              have HP := Lib.hid (And.intro hv (And.intro hvh (And.intro (HV.out.2.2.1.below hbw hbw.size) (And.intro hblk (And.intro hcell (And.intro hblkh hcellh))))))
              have hki : (k : Int) < (S.length : Int) := by omega
              have HSR := Lib.hid (And.intro hown (And.intro hRR (And.intro hbw (And.intro hpl1 (HS.out.1.at_ hlt)))))
              clear hown hRR hbw hsr hhr hblk hcell hpl1 hv hblkh hcellh hpl2 hvh HJ
              go_wp2_with fail
              refine wp_region_grow (W := wr) 12 [[], [], [0, 1], [2], [], [3, 4], [], [], [6, 7], [8], [5, 9], [10]] [] (dGrp (.slice (some ⟨bs, os, none⟩) S.length cS) k ⟨bs, os + k, none⟩ (.slice Ar S[k].length cr) (.slice A' ps.length c') (atR (natP ps) S[k]) (.slice (some ⟨bh, oh, none⟩) H.length cH) i ⟨bh, oh + i, none⟩ (.slice Ai H[i].length ci) (cmpR (atR (natP ps) S[k]) H[i])) (by kernel_rfl) (by kernel_rfl) dGrp_below ⟨?o0, ?o1, ?o2, ?o3, ?o4, ?o5, ?o6, ?o7, ?o8, ?o9, ?o10, ?o11, trivial⟩ ?fin
              case o0 =>
                refine growOne_of (pre := []) rfl ?_
                simp only [fillL, Act.put]
                intro f w' hb hp
                clear hp
                clear hb
                go_wp2_with fail
                exact ⟨Below.refl _ _, rfl, fun h => by simp at h⟩
              case o1 =>
                refine growOne_of (pre := []) rfl ?_
                simp only [fillL, Act.put]
                intro f w' hb hp
                clear hp
                clear hb
                go_wp2_with fail
                exact ⟨Below.refl _ _, rfl, fun h => by simp at h⟩
              case o2 =>
                refine growOne_of (pre := [0, 1]) rfl ?_
                simp only [fillL, Region.dstOf, List.getElem?_toArray, List.getElem?_cons_zero, List.getElem?_cons_succ, Option.bind_some, Act.put]
                intro f w' hb hp
                have h0 : f 0 = .slice (some ⟨bs, os, none⟩) S.length cS := hp 0 (by decide)
                have h1 : f 1 = .int .i64 (k : Nat) := hp 1 (by decide)
                clear hp
                rw [h0, h1]
                clear h0 h1
                clear hb
                go_wp2_with fail
                exact ⟨Below.refl _ _, rfl, fun h => by simp at h⟩
              case o3 =>
                refine growOne_of (pre := [2]) rfl ?_
                simp only [fillL, Region.dstOf, List.getElem?_toArray, List.getElem?_cons_zero, List.getElem?_cons_succ, Option.bind_some, Act.put]
                intro f w' hb hp
                have h2 : f 2 = .pointer (some ⟨bs, os + k, none⟩) := hp 2 (by decide)
                have k0 := (hb.cell (p := ⟨bs, _, none⟩) HP.out.2.2.2.1).trans HP.out.2.2.2.2.1
                clear hp
                rw [h2]
                clear h2
                clear hb
                go_wp2_with fail
                exact ⟨Below.refl _ _, rfl, fun h => by simp at h⟩
              case o4 =>
                refine growOne_of (pre := []) rfl ?_
                simp only [fillL, Act.put]
                intro f w' hb hp
                clear hp
                clear hb
                go_wp2_with fail
                exact ⟨Below.refl _ _, rfl, fun h => by simp at h⟩
              case o5 =>
                refine growOne_of (pre := [3, 4]) rfl ?_
                simp only [fillL, Region.dstOf, List.getElem?_toArray, List.getElem?_cons_zero, List.getElem?_cons_succ, Option.bind_some, Act.put]
                intro f w' hb hp
                have h3 : f 3 = .slice Ar S[k].length cr := hp 3 (by decide)
                have h4 : f 4 = .slice A' ps.length c' := hp 4 (by decide)
                clear hp
                rw [h3, h4]
                have HB := Lib.hid (And.intro (HP.out.1.below hb hb.size) (HP.out.2.2.1.below hb hb.size))
                clear h3 h4 hb
                go_wp2_with fail
                refine (RAt_any Ar A' cr c' S[k] ps w' HB.out.1 HX.out.1.2 (by have := HX.out.1.1; unfold maxLen; omega) HB.out.2 hpl HX.out.2.1).mono ?_
                rintro e w9 ⟨v, rfl, hvo, hvb⟩
                obtain ⟨a1, c1, rfl, -, hv1⟩ := own_plain hvo
                have HO2 : Hid (growPost (dGrp (.slice (some ⟨bs, os, none⟩) S.length cS) k ⟨bs, os + k, none⟩ (.slice Ar S[k].length cr) (.slice A' ps.length c') (atR (natP ps) S[k]) (.slice (some ⟨bh, oh, none⟩) H.length cH) i ⟨bh, oh + i, none⟩ (.slice Ai H[i].length ci) (cmpR (atR (natP ps) S[k]) H[i])) [] 5 w' w9 (.slice a1 (atR (natP ps) S[k]).length c1)) := ⟨hvb, ⟨a1, c1, rfl, hv1⟩, fun h => by simp at h⟩
                clear hvo hvb hv1
                go_wp2_with fail
                exact HO2.out
              case o6 =>
                refine growOne_of (pre := []) rfl ?_
                simp only [fillL, Act.put]
                intro f w' hb hp
                clear hp
                clear hb
                go_wp2_with fail
                exact ⟨Below.refl _ _, rfl, fun h => by simp at h⟩
              case o7 =>
                refine growOne_of (pre := []) rfl ?_
                simp only [fillL, Act.put]
                intro f w' hb hp
                clear hp
                clear hb
                go_wp2_with fail
                exact ⟨Below.refl _ _, rfl, fun h => by simp at h⟩
              case o8 =>
                refine growOne_of (pre := [6, 7]) rfl ?_
                simp only [fillL, Region.dstOf, List.getElem?_toArray, List.getElem?_cons_zero, List.getElem?_cons_succ, Option.bind_some, Act.put]
                intro f w' hb hp
                have h6 : f 6 = .slice (some ⟨bh, oh, none⟩) H.length cH := hp 6 (by decide)
                have h7 : f 7 = .int .i64 (i : Nat) := hp 7 (by decide)
                clear hp
                rw [h6, h7]
                clear h6 h7
                clear hb
                go_wp2_with fail
                exact ⟨Below.refl _ _, rfl, fun h => by simp at h⟩
              case o9 =>
                refine growOne_of (pre := [8]) rfl ?_
                simp only [fillL, Region.dstOf, List.getElem?_toArray, List.getElem?_cons_zero, List.getElem?_cons_succ, Option.bind_some, Act.put]
                intro f w' hb hp
                have h8 : f 8 = .pointer (some ⟨bh, oh + i, none⟩) := hp 8 (by decide)
                have k0 := (hb.cell (p := ⟨bh, _, none⟩) HP.out.2.2.2.2.2.1).trans HP.out.2.2.2.2.2.2
                clear hp
                rw [h8]
                clear h8
                clear hb
                go_wp2_with fail
                exact ⟨Below.refl _ _, rfl, fun h => by simp at h⟩
              case o10 =>
                refine growOne_of (pre := [5, 9]) rfl ?_
                simp only [fillL, Region.dstOf, List.getElem?_toArray, List.getElem?_cons_zero, List.getElem?_cons_succ, Option.bind_some, Act.put]
                intro f w' hb hp
                obtain ⟨Ah, ch, h5, hv5⟩ : ∃ Ah ch, f 5 = .slice Ah (atR (natP ps) S[k]).length ch ∧ VReads w' w'.heap.size Ah (atR (natP ps) S[k]) := hp 5 (by decide)
                have h9 : f 9 = .slice Ai H[i].length ci := hp 9 (by decide)
                clear hp
                rw [h5, h9]
                have HB := Lib.hid (And.intro hv5 (HP.out.2.1.below hb hb.size))
                clear h5 h9 hb hv5
                have hay : Hid ((atR (natP ps) S[k]).length ≤ maxLen ∧ VFit (atR (natP ps) S[k])) := Lib.hid ⟨by rw [atR_len, natP_len]; unfold maxLen; omega, fun v hv => by
                  obtain ⟨p, hp, rfl⟩ := List.mem_map.1 hv
                  obtain ⟨p', hp', rfl⟩ := List.mem_map.1 hp
                  obtain ⟨p0, p1⟩ := plB_true (HX.out.2.1 p' hp')
                  have hm : p'.toNat < S[k].length := by omega
                  rw [List.getElem?_eq_getElem hm]
                  exact HX.out.1.2 _ (List.getElem_mem hm)⟩
                go_wp2_with fail
                refine (RCompare_rows Ah Ai ch ci (atR (natP ps) S[k]) H[i] w' HB.out.1 HB.out.2 hay.out.2 HX.out.2.2.2 hay.out.1 (by have := HX.out.2.2.1; unfold maxLen; omega)).mono ?_
                rintro e w9 ⟨rfl, hvb⟩
                have HO2 : Hid (growPost (dGrp (.slice (some ⟨bs, os, none⟩) S.length cS) k ⟨bs, os + k, none⟩ (.slice Ar S[k].length cr) (.slice A' ps.length c') (atR (natP ps) S[k]) (.slice (some ⟨bh, oh, none⟩) H.length cH) i ⟨bh, oh + i, none⟩ (.slice Ai H[i].length ci) (cmpR (atR (natP ps) S[k]) H[i])) [] 10 w' w9 (.int .i64 (cmpR (atR (natP ps) S[k]) H[i]))) := ⟨hvb, rfl, fun h => by simp at h⟩
                clear hvb
                go_wp2_with fail
                exact HO2.out
              case o11 =>
                refine growOne_of (pre := [10]) rfl ?_
                simp only [fillL, Region.dstOf, List.getElem?_toArray, List.getElem?_cons_zero, List.getElem?_cons_succ, Option.bind_some, Act.put]
                intro f w' hb hp
                have h10 : f 10 = .int .i64 (cmpR (atR (natP ps) S[k]) H[i]) := hp 10 (by decide)
                clear hp
                rw [h10]
                clear h10
                clear hb
                go_wp2_with fail
                exact ⟨Below.refl _ _, rfl, fun h => by simp at h⟩
              case fin =>
                intro f w4 hb hd _
                have e0 : f 0 = .slice (some ⟨bs, os, none⟩) S.length cS := hd 0 (by decide)
                have e1 : f 1 = .int .i64 (k : Nat) := hd 1 (by decide)
                have e2 : f 2 = .pointer (some ⟨bs, os + k, none⟩) := hd 2 (by decide)
                have e3 : f 3 = .slice Ar S[k].length cr := hd 3 (by decide)
                have e4 : f 4 = .slice A' ps.length c' := hd 4 (by decide)
                have e6 : f 6 = .slice (some ⟨bh, oh, none⟩) H.length cH := hd 6 (by decide)
                have e7 : f 7 = .int .i64 (i : Nat) := hd 7 (by decide)
                have e8 : f 8 = .pointer (some ⟨bh, oh + i, none⟩) := hd 8 (by decide)
                have e9 : f 9 = .slice Ai H[i].length ci := hd 9 (by decide)
                have e10 : f 10 = .int .i64 (cmpR (atR (natP ps) S[k]) H[i]) := hd 10 (by decide)
                obtain ⟨Ah, ch, e5, -⟩ : ∃ Ah ch, f 5 = .slice Ah (atR (natP ps) S[k]).length ch ∧ VReads w4 w4.heap.size Ah (atR (natP ps) S[k]) := hd 5 (by decide)
                have e11 : f 11 = .bool (cmpR (atR (natP ps) S[k]) H[i] == 0) := hd 11 (by decide)
                clear hd
                rw [show List.range 12 = [0, 1, 2, 3, 4, 5, 6, 7, 8, 9, 10, 11] from rfl]
                simp only [fillL, Region.dstOf, List.getElem?_toArray, List.getElem?_cons_zero, List.getElem?_cons_succ, Option.bind_some, Act.put]
                rw [e0, e1, e2, e3, e4, e5, e6, e7, e8, e9, e10, e11]
                have HB4 := Lib.hid hb
                have hcb := (hb.cell (p := ⟨bs, _, none⟩) HP.out.2.2.2.1).trans HP.out.2.2.2.2.1
                clear e0 e1 e2 e3 e4 e5 e6 e7 e8 e9 e10 e11 hb
                have HFS := Lib.hid (filter_snoc hlt fun r => decide (atR (natP ps) r = H[i]))
                have hdec : (cmpR (atR (natP ps) S[k]) H[i] == 0) = decide (atR (natP ps) S[k] = H[i]) := by
                  rw [Bool.eq_iff_iff, beq_iff_eq, cmpR_iff, decide_eq_true_iff]
                rw [← hdec] at HFS
                clear hdec
                generalize cmpR (atR (natP ps) S[k]) H[i] = q at *
                generalize (atR (natP ps) S[k]).length = la at *
                obtain ⟨hs, hown, hRR, hbw⟩ := (And.intro HSR.out.1 (And.intro HSR.out.2.1 HSR.out.2.2.1) : _ ∧ _ ∧ _) |> fun h => (⟨_, h.1, h.2.1, h.2.2⟩ : ∃ hs, wr.ownsRow w3.heap.size 34 1 _ F.length hs ∧ RowsR wr w1.heap.size hs F ∧ Below w3.heap.size w3 wr)
                have HQ4 := Lib.hid (And.intro (own_below hown HB4.out) (And.intro (hRR.below (HB4.out.mono (Nat.le_trans HV.out.2.2.2.size hbw.size))) (thn hbw HB4.out)))
                clear hown hRR hbw
                simp only [List.drop_succ_cons, List.drop_zero, wpList]
                go_frame
                by_cases hq : q = 0
                · subst hq
                  have HFN : Hid ((S.take (k + 1)).filter (fun r => decide (atR (natP ps) r = H[i])) = F ++ [S[k]]) := by
                    show _ = _
                    rw [HFS.out, ← HFe.out]; rfl
                  have hlF : (F ++ [S[k]]).length = F.length + 1 := by rw [List.length_append]; rfl
                  clear HFS
                  have q1 := Blk.new w4 34 #[.slice Ar S[k].length cr]
                  have q2 := sread_one q1 (B := w4.heap.size + 1) (by omega)
                  have HQ5 := Lib.hid q2
                  clear q1 q2
                  go_wp2_with (at_builtin; refine wpList_append_any _ rfl (.tmp 55) (.tmp 60) 23 rfl w3.heap.size 34 i0 (.slice none 0 0) 1 24 Tryz.underlying23 hi hz0 hz1 hz2 rfl (by decide) _ _ _ rfl (HQ4.out.1.alloc _) (w4.heap.size + 1) _ 1 1 [.slice Ar S[k].length cr] rfl HQ5.out ?c1 ?c2 ?c3 ?c4 ?_)
                  case c1 => intro u hu; simp only [List.mem_cons, List.not_mem_nil, or_false] at hu; subst hu; rfl
                  case c2 => unfold maxLen; omega
                  case c3 => omega
                  case c4 => have := HQ4.out.2.2.size; simp <;> omega
                  intro v5 w5 hown5 hgr5 _
                  have HN : Hid (∃ hs, w5.ownsRow w3.heap.size 34 1 v5 (F ++ [S[k]]).length hs ∧ RowsR w5 w1.heap.size hs (F ++ [S[k]]) ∧ Below w3.heap.size w3 w5) := by
                    have hB1 : w1.heap.size ≤ w4.heap.size := Nat.le_trans HV.out.2.2.2.size HQ4.out.2.2.size
                    have hbA : Below w3.heap.size w3 (w4.alloc (.cells #[.slice Ar S[k].length cr] 34)) := al HQ4.out.2.2 _
                    have hbase := own_base (HQ4.out.1.alloc (.cells #[.slice Ar S[k].length cr] 34))
                    have hb5 := hbA.grown hgr5 hbA.size hbase
                    rw [hlF]
                    refine ⟨_, hown5, ?_, hb5⟩
                    have hrow : ∃ Ar' cr', Value.slice Ar S[k].length cr = .slice Ar' S[k].length cr' ∧ Plain Ar' ∧ VReads w5 w1.heap.size Ar' S[k] := by
                      obtain ⟨b', o', Ar', cr', e', hb', hc', hp', hv'⟩ := HSR.out.2.2.2.2
                      have hlow : Below w1.heap.size w1 wr := HV.out.2.2.2.trans (HSR.out.2.2.1.mono HV.out.2.2.2.size)
                      have h1 := (hlow.cell (p := ⟨b', _, none⟩) hb').trans hc'
                      injection e' with e'
                      injection e' with eb eo
                      subst eb eo
                      have h2 := HP.out.2.2.2.2.1.symm.trans h1
                      have h3 : Value.slice Ar S[k].length cr = .slice Ar' S[k].length cr' := Option.some.inj h2
                      exact ⟨Ar', cr', h3, hp', hv'.below (HV.out.2.2.2.trans (hb5.mono HV.out.2.2.2.size)) (Nat.le_refl _)⟩
                    obtain ⟨Ar', cr', e', hp', hv'⟩ := hrow
                    rw [e']
                    refine RowsR.snoc ?_ hp' hv'
                    exact ((HQ4.out.2.1.below ((al (Below.refl _ w4) (.cells #[.slice Ar S[k].length cr] 34)).mono hB1)).grown hgr5 (Nat.le_trans hB1 (by simp)) fun g e => Nat.le_trans HV.out.2.2.2.size (hbase g e))
                  clear hown5 hgr5
                  go_wp2_with fail
                  go_roundw
                  case rel => exact ⟨k + 1, F ++ [S[k]], by omega, by go_num, by omega, Lib.hid HFN.out.symm, HN⟩
                  case measure => simp [intOf]; omega
                · have hqb : (q == 0) = false := by simp [hq]
                  have HFN : Hid ((S.take (k + 1)).filter (fun r => decide (atR (natP ps) r = H[i])) = F) := by
                    show _ = _
                    rw [HFS.out, ← HFe.out, hqb]; simp
                  clear HFS hq
                  go_wp2_with fail
                  go_roundw
                  case rel => exact ⟨k + 1, F, by omega, by go_num, by omega, Lib.hid HFN.out.symm, ⟨hs, HQ4.out⟩⟩
                  case measure => simp [intOf]; omega
            · have hkn : k = S.length := by omega
              subst hkn
              obtain ⟨hs, hown, hRR, hbw⟩ := HJ.out
              have HFS : Hid (F = grp H[i]) := by
                show F = _
                rw [HFe.out, List.take_of_length_le (Nat.le_refl _), ← HGR.out]
              obtain ⟨a9, c9, rfl⟩ := own_slice hown
              have q1 := Blk.new wr 23 #[.slice a9 F.length c9]
              have q2 := sread_one q1 (B := wr.heap.size + 1) (by omega)
              have H1 := Lib.hid (And.intro ((own_below HO.out.1 hbw).alloc (.cells #[.slice a9 F.length c9] 23)) (And.intro q2 (And.intro hown (And.intro hbw (And.intro HO.out.1.lt hRR)))))
              clear q1 q2 hown hbw hRR HJ HFe
              go_wp2_with (at_builtin; refine wpList_append_any _ rfl (.tmp 62) (.tmp 64) 53 rfl w2.heap.size 23 j0 (.slice none 0 0) 1 24 Tryz.underlying53 hj jz0 jz1 jz2 rfl (by decide) _ _ _ rfl H1.out.1 (wr.heap.size + 1) _ 1 1 [.slice a9 F.length c9] rfl H1.out.2.1 ?c1 ?c2 ?c3 ?c4 ?_)
              case c1 => intro u hu; simp only [List.mem_cons, List.not_mem_nil, or_false] at hu; subst hu; rfl
              case c2 => unfold maxLen; omega
              case c3 => omega
              case c4 => have := HO.out.2.2.2.size; have := H1.out.2.2.2.1.size; simp <;> omega
              intro v2 w4 hown2 hgr2 hu2
              have HN : Hid (∃ vs, w4.ownsRow w2.heap.size 23 1 v2 (i + 1) vs ∧ OwnGs w4 w2.heap.size w1.heap.size vs ((H.take (i + 1)).map grp) ∧ Apart v2 vs ∧ Below w2.heap.size w2 w4) := by
                obtain ⟨x1, x2, x3, x4, x5, x6⟩ := H1.out
                obtain ⟨y1, y2, y3, y4⟩ := HO.out
                have hB3 : w1.heap.size ≤ w3.heap.size := HV.out.2.2.2.size
                have hB12 : w1.heap.size ≤ w2.heap.size := H2.out.2.size
                have hBr : w1.heap.size ≤ wr.heap.size := Nat.le_trans hB3 x4.size
                have z1 := (OwnGs.snoc (y2.below x4 hB3) (⟨hs, own_weaker x3 y4.size, x6⟩ : OwnG wr w2.heap.size w1.heap.size (.slice a9 F.length c9) F)).below (al (Below.refl _ _) (.cells #[.slice a9 F.length c9] 23)) hBr
                have z2 : Apart u8 (vs ++ [.slice a9 F.length c9]) := fun x hx => by
                  rcases List.mem_append.1 hx with h | h
                  · exact y3 x h
                  · simp only [List.mem_cons, List.not_mem_nil, or_false] at h
                    subst h
                    cases hb : Value.ownBlock (.slice a9 F.length c9) with
                    | none => exact .inl rfl
                    | some g =>
                      refine .inr fun e => ?_
                      have := (x3.lt g hb).1
                      have := (x5 g e.symm).2
                      omega
                have hT : (H.take (i + 1)).map grp = (H.take i).map grp ++ [F] := by
                  rw [List.take_succ_eq_append_getElem hli, List.map_append, HFS.out]; rfl
                rw [hT]
                refine ⟨_, hown2, z1.kept z2 hgr2 (Nat.le_trans hBr (by simp)) fun g e => Nat.le_trans hB12 (own_base H1.out.1 g e), Apart.appG z1 z2 (n := wr.heap.size + 1) (by simp) hu2, ((thn y4 x4).alloc (by have := y4.size; have := x4.size; omega) _).grown hgr2 (by have := y4.size; have := x4.size; simp <;> omega) (own_base H1.out.1)⟩
              clear hown2 hgr2 hu2 HFS
              go_wp2_with fail
              go_roundw
              case rel => exact ⟨i + 1, by omega, by go_num, HN⟩
              case measure => simp [intOf]; omega
        · have hin : i = H.length := by omega
          subst hin
          obtain ⟨vs, hown, hrs, -, hbw⟩ := HI.out
          rw [List.take_of_length_le (Nat.le_refl _)] at hrs
          have hlm : (H.map grp).length = H.length := List.length_map ..
          obtain ⟨A9, c9, rfl, hg⟩ := hrs.greads (by rw [hlm]; exact hown) (Nat.le_trans H2.out.2.size hbw.size)
          have HZ : Hid (GReads wr wr.heap.size A9 (groupsR (natP ps) L) ∧ Below w.heap.size w wr ∧ (groupsR (natP ps) L).length = H.length) := ⟨by rw [HG.out]; exact hg, thn HS.out.2.1 (thn H2.out.2 hbw), by rw [HG.out, hlm]⟩
          rw [hlm]
          clear hown hrs hbw hlm hg HI
          go_wp2_with fail
          go_ret
          exact ⟨A9, c9, by rw [HZ.out.2.2]; rfl, HZ.out.1, HZ.out.2.1⟩
end Go.Proofs.YtapnnheggjahlaaGreatDoor
