/-
  CONTRACTS of the reference of rows: by, Copy.
-/
import Derived.Test.YtapnnheggjahlaaGreatDoorGK
import Derived.Test.YtapnnheggjahlaaGreatDoorGI
import Derived.Test.YtapnnheggjahlaaGreatDoorCutR
import Derived.Test.YtapnnheggjahlaaGreatDoorReg
import Derived.Test.YtapnnheggjahlaaGreatDoorGC
import Derived.Test.YtapnnheggjahlaaGreatDoorGJ
namespace Go.Proofs.YtapnnheggjahlaaGreatDoor
open Go.RowKit

theorem cmpKR_eq1 (ks : List (Nat × Bool)) (a b : List V) : cmpKR ks a b = if cmpKs ks a b = 0 then cmpR a b else cmpKs ks a b := rfl
set_option maxHeartbeats 2000000 in
theorem rBy_any (ks : List (Nat × Bool)) (Ak : Option Addr) (ck : Nat) (A A' : Option Addr) (c1 c2 : Nat) (a b : List V) (w : World)
    (hk : KReads w w.heap.size Ak (kI ks)) (hks : ks.length ≤ 1000000) (hr : VReads w w.heap.size A a) (hr' : VReads w w.heap.size A' b) (ha : VFit a) (hb : VFit b) (hla : a.length ≤ maxLen) (hlb : b.length ≤ maxLen) (hin : ∀ k ∈ ks, k.1 < a.length ∧ k.1 < b.length) :
    Calls Tryz.prog 75 #[.slice Ak ks.length ck, .slice A a.length c1, .slice A' b.length c2] w fun e w' => e = .returned (.int .i64 (cmpKR ks a b)) ∧ Below w.heap.size w w' := by
  have hla := Nat.le_trans hla (Nat.le_refl _)
  have hlb := Nat.le_trans hlb (Nat.le_refl _)
  have HN0 := Lib.hid (And.intro hla hlb)
  unfold maxLen at hla hlb
  have HA := Lib.hid (And.intro hk (And.intro hr (And.intro hr' (And.intro ha (And.intro hb hin)))))
  clear hk hr hr' ha hb hin
  go_enter Tryz.func75, Tryz.ntmps75
  go_wp2
  go_loopw [7] (fun i wr => ∃ k : Nat, k ≤ ks.length ∧ i = .int .i64 k ∧ Hid ((∀ (j : Nat) (h : j < ks.length), j < k → cmpKey ks[j] a b = 0) ∧ Below w.heap.size w wr)) (fun i _ => ks.length - (intOf i).toNat)
  case atStart => exact ⟨0, Nat.zero_le _, rfl, fun j _ h => absurd h (by omega), Below.refl _ _⟩
  case round =>
    obtain ⟨k, hk, rfl, HI⟩ := hrel
    by_cases hlt : k < ks.length
    · have hlt2 : k < (kI ks).length := by simp [kI]; exact hlt
      have hLw := HI.out.2
      obtain ⟨p, o, rfl, hblk, c0, c1'⟩ := (HA.out.1.below hLw hLw.size).at_ hlt2
      have e1 : (kI ks)[k] = ((ks[k].1 : Int), ks[k].2) := by simp [kI]
      rw [e1] at c0 c1'
      simp only at c0 c1'
      obtain ⟨hca, hcb⟩ := HA.out.2.2.2.2.2 _ (List.getElem_mem hlt)
      obtain ⟨pa, oa, rfl, hba, a0, a1, a2⟩ := (HA.out.2.1.below hLw hLw.size).at_ hca
      obtain ⟨pb, ob, rfl, hbb, b0, b1, b2⟩ := (HA.out.2.2.1.below hLw hLw.size).at_ hcb
      obtain ⟨x, hx⟩ : ∃ x, x = a[ks[k].1] := ⟨_, rfl⟩
      obtain ⟨y, hy⟩ : ∃ y, y = b[ks[k].1] := ⟨_, rfl⟩
      have HKY : Hid (cmpKey ks[k] a b = if ks[k].2 then -cmpW x y else cmpW x y) := by
        show cmpKey ks[k] a b = _
        unfold cmpKey
        subst hx hy
        simp [hca, hcb]
      have hxo : x.s.size ≤ maxLen := by rw [hx]; exact HA.out.2.2.2.1 _ (List.getElem_mem _)
      have hyo : y.s.size ≤ maxLen := by rw [hy]; exact HA.out.2.2.2.2.1 _ (List.getElem_mem _)
      rw [← hx] at a0 a1 a2
      rw [← hy] at b0 b1 b2
      have HN := Lib.hid (fun h : cmpKey ks[k] a b ≠ 0 => cmpKs_at hlt HI.out.1 h)
      have HE := Lib.hid (fun h : cmpKey ks[k] a b = 0 => (fun j (hj : j < ks.length) (hjk : j < k + 1) => (if e : j = k then by subst e; exact h else HI.out.1 j hj (by omega) : cmpKey ks[j] a b = 0)))
      have HL := Lib.hid HI.out.2
      generalize cmpKey ks[k] a b = ck0 at *
      generalize ks[k].2 = dd at *
      generalize ks[k].1 = m at *
      have HX : Hid (∀ w1, Calls Tryz.prog 63 #[.agg #[.int .i64 x.k, .int .i64 x.n, .string x.s], .agg #[.int .i64 y.k, .int .i64 y.n, .string y.s]] w1 fun e w' => e = .returned (.int .i64 (cmpW x y)) ∧ Below w1.heap.size w1 w') := fun w1 => rCompare_any _ _ _ _ _ _ _ hxo hyo
      have hma : (m : Int) < (a.length : Int) := by omega
      have hmb : (m : Int) < (b.length : Int) := by omega
      have X0 : ∀ z : Aft wr, z.w.cell? ⟨p, o + k * 2, none⟩ = some (.int .i64 (m : Int)) := fun z => (z.h.cell (p := ⟨p, _, none⟩) hblk).trans c0
      have X1 : ∀ z : Aft wr, z.w.cell? ⟨p, o + k * 2 + 1, none⟩ = some (.bool dd) := fun z => (z.h.cell (p := ⟨p, _, none⟩) hblk).trans c1'
      have A0 : ∀ z : Aft wr, z.w.cell? ⟨pa, oa + m * 3, none⟩ = some (.int .i64 x.k) := fun z => (z.h.cell (p := ⟨pa, _, none⟩) hba).trans a0
      have A1 : ∀ z : Aft wr, z.w.cell? ⟨pa, oa + m * 3 + 1, none⟩ = some (.int .i64 x.n) := fun z => (z.h.cell (p := ⟨pa, _, none⟩) hba).trans a1
      have A2 : ∀ z : Aft wr, z.w.cell? ⟨pa, oa + m * 3 + 2, none⟩ = some (.string x.s) := fun z => (z.h.cell (p := ⟨pa, _, none⟩) hba).trans a2
      have B0 : ∀ z : Aft wr, z.w.cell? ⟨pb, ob + m * 3, none⟩ = some (.int .i64 y.k) := fun z => (z.h.cell (p := ⟨pb, _, none⟩) hbb).trans b0
      have B1 : ∀ z : Aft wr, z.w.cell? ⟨pb, ob + m * 3 + 1, none⟩ = some (.int .i64 y.n) := fun z => (z.h.cell (p := ⟨pb, _, none⟩) hbb).trans b1
      have B2 : ∀ z : Aft wr, z.w.cell? ⟨pb, ob + m * 3 + 2, none⟩ = some (.string y.s) := fun z => (z.h.cell (p := ⟨pb, _, none⟩) hbb).trans b2
      clear hx hy e1 hlt2 hLw HI hxo hyo a0 a1 a2 b0 b1 b2 c0 c1'
      go_wp2_with fail
      refine region_aft (by kernel_rfl) (by kernel_rfl) ?_
      repeat (go_big_quiet_step ((exact aft_call (HX.out _))))
      refine wpQuiet_nil ?_
      intro x9
      have W9 := Lib.hid (thn HL.out x9.h)
      have d1 := X1 x9
      have hcr := cmpW_range2 x y
      have HKY2 := Lib.hid HKY.out
      clear X0 X1 A0 A1 A2 B0 B1 B2 HX HKY HL
      generalize cmpW x y = r at *
      have hr0 : -1 ≤ r := by omega
      have hr1 : r ≤ 1 := by omega
      clear hcr
      cases dd
      all_goals
        by_cases hz : r = 0
        · have hck : ck0 = 0 := by have := HKY2.out; simp [hz] at this; exact this
          have HE2 := Lib.hid (HE.out hck)
          subst hz
          clear HE HN HKY2 hck
          go_wp2_with fail
          go_roundw
          case rel => exact ⟨k + 1, by omega, by go_num, HE2.out, W9.out⟩
          case measure => simp [intOf]; omega
        · have hck : ck0 ≠ 0 := by have := HKY2.out; simp at this; omega
          have HN2 := Lib.hid (HN.out hck)
          have HC := Lib.hid hck
          have hrb : (r != 0) = true := by simp [hz]
          have HK3 := Lib.hid HKY2.out
          clear hz hck HE HN HKY2
          go_wp2_with fail
          go_ret
          refine ⟨ret_int ?_, W9.out⟩
          rw [cmpKR_eq1, HN2.out, if_neg HC.out, HK3.out]
          simp
    · have hka : k = ks.length := by omega
      subst hka
      have HE : Hid (cmpKR ks a b = cmpR a b) := by
        show _ = _
        rw [cmpKR_eq1, if_pos (cmpKs_end HI.out.1)]
      go_wp2_with fail
      refine (RCompare_rows A A' c1 c2 a b wr (HA.out.2.1.below HI.out.2 HI.out.2.size) (HA.out.2.2.1.below HI.out.2 HI.out.2.size) HA.out.2.2.2.1 HA.out.2.2.2.2.1 HN0.out.1 HN0.out.2).mono ?_
      rintro e w1 ⟨rfl, hb1⟩
      have W1 := Lib.hid (thn HI.out.2 hb1)
      clear hb1
      go_wp2_with fail
      go_ret
      exact ⟨ret_int HE.out.symm, W1.out⟩

set_option maxHeartbeats 1000000 in
theorem RCopy_any (A : Option Addr) (c : Nat) (L : List (List V)) (w : World) (hr : LReads w w.heap.size A L) (hL : L.length ≤ 1000000) (hl : ∀ r ∈ L, r.length ≤ 1000000) :
    Calls Tryz.prog 50 #[.slice A L.length c] w fun e w' => ∃ v vs, e = .returned v ∧ w'.ownsRow w.heap.size 34 1 v L.length vs ∧ OwnRs w' w.heap.size vs L ∧ Apart v vs ∧ Below w.heap.size w w' := by
  have HR := Lib.hid (And.intro hr hl)
  obtain ⟨i0, hi, hz0, hz1, hz2⟩ := info_parts infoR
  obtain ⟨i1, hj, hy0, hy1, hy2⟩ := info_parts infoV
  clear hr hl
  go_enter Tryz.func50, Tryz.ntmps50
  go_wp2_with fail
  go_loopw [3, 4] (fun v i wr => ∃ k : Nat, k ≤ L.length ∧ i = .int .i64 k ∧ Hid (∃ vs, wr.ownsRow w.heap.size 34 1 v (L.take k).length vs ∧ OwnRs wr w.heap.size vs (L.take k) ∧ Apart v vs ∧ Below w.heap.size w wr)) (fun _ i _ => L.length - (intOf i).toNat)
  case atStart => exact ⟨0, Nat.zero_le _, rfl, [], ⟨rfl, .inl ⟨rfl, rfl⟩⟩, OwnRs.nil _ _, fun x hx => (by cases hx), Below.refl _ _⟩
  case round =>
    obtain ⟨k, hk, rfl, HI⟩ := hrel
    by_cases hlt : k < L.length
    · obtain ⟨vs, hown, hrs, hap, hbw⟩ := HI.out
      obtain ⟨b, o, Ar, cr, rfl, hblk, hc, hpl, hv⟩ := (HR.out.1.below hbw hbw.size).at_ hlt
      have hfr := HR.out.2 L[k] (List.getElem_mem hlt)
      have HO := Lib.hid (And.intro hown (And.intro hrs (And.intro hap (And.intro hbw (And.intro hv hfr)))))
      have hlc : (L.take k).length = k := by simp; omega
      have HL := Lib.hid hlc
      have HE0 := Lib.hid (own_empty wr 78 3)
      have HRd := Lib.hid (hv.below (al (Below.refl wr.heap.size wr) (.cells #[] 78)) (by simp <;> omega : _ ≤ wr.heap.size + 1)).reads
      clear hlc hown hrs hap hbw hv hfr hpl HI
      go_wp2_with (at_builtin; refine wpList_append_any _ rfl (.tmp 12) (.tmp 16) 34 rfl wr.heap.size 78 i1 (.agg #[.int .i64 0, .int .i64 0, .string ⟨#[]⟩]) 3 32 Tryz.underlying34 hj hy0 hy1 hy2 rfl (by decide) _ 0 [] rfl HE0.out (wr.heap.size + 1) Ar L[k].length cr (vcells L[k]) rfl HRd.out ?c1 ?c2 ?c3 ?c4 ?_)
      case c1 => exact vcells_one _
      case c2 => have := HO.out.2.2.2.2.2; unfold maxLen; omega
      case c3 => have := HO.out.2.2.2.2.2; omega
      case c4 => simp <;> omega
      intro v1 w1 hown1 hgr1 _
      have hvo : OwnR w1 wr.heap.size v1 L[k] := hown1
      have hvb : Below wr.heap.size wr w1 := (al (Below.refl _ _) _).grown hgr1 (by simp <;> omega) (own_base HE0.out)
      clear hown1 hgr1 HE0 HRd
      obtain ⟨a1, c1, rfl⟩ := own_slice hvo
      have hsz := hvb.size
      have q1 := Blk.new w1 34 #[.slice a1 L[k].length c1]
      have q2 := sread_one q1 (B := w1.heap.size + 1) (by omega)
      have hul := HO.out.1.lt
      have H1 := Lib.hid (And.intro ((own_below HO.out.1 hvb).alloc (.cells #[.slice a1 L[k].length c1] 34)) (And.intro q2 (And.intro hvo (And.intro hvb hul))))
      clear hvo hvb q1 q2 hul
      go_wp2_with (at_builtin; refine wpList_append_any _ rfl (.tmp 11) (.tmp 18) 23 rfl w.heap.size 34 i0 (.slice none 0 0) 1 24 Tryz.underlying23 hi hz0 hz1 hz2 rfl (by decide) _ _ _ rfl H1.out.1 (w1.heap.size + 1) _ 1 1 [.slice a1 L[k].length c1] rfl H1.out.2.1 ?c1 ?c2 ?c3 ?c4 ?_)
      case c1 => intro u hu; simp only [List.mem_cons, List.not_mem_nil, or_false] at hu; subst hu; rfl
      case c2 => have := HL.out; unfold maxLen; omega
      case c3 => have := HL.out; omega
      case c4 => have := HO.out.2.2.2.1.size; simp <;> omega
      intro v2 w2 hown2 hgr2 hu2
      have HN : Hid (∃ vs, w2.ownsRow w.heap.size 34 1 v2 (L.take (k + 1)).length vs ∧ OwnRs w2 w.heap.size vs (L.take (k + 1)) ∧ Apart v2 vs ∧ Below w.heap.size w w2) := by
        obtain ⟨x1, x2, x3, x4, x5⟩ := H1.out
        obtain ⟨y1, y2, y3, y4, -⟩ := HO.out
        have z1 := (OwnRs.snoc (y2.below x4) (own_weaker x3 y4.size)).below (al (Below.refl _ _) (.cells #[.slice a1 L[k].length c1] 34))
        have z2 : Apart u3 (vs ++ [.slice a1 L[k].length c1]) := fun x hx => by
          rcases List.mem_append.1 hx with h | h
          · exact y3 x h
          · simp only [List.mem_cons, List.not_mem_nil, or_false] at h
            subst h
            cases hb : Value.ownBlock (.slice a1 L[k].length c1) with
            | none => exact .inl rfl
            | some g =>
              refine .inr fun e => ?_
              have := (x3.lt g hb).1
              have := (x5 g e.symm).2
              omega
        rw [List.take_succ_eq_append_getElem hlt, List.length_append, HL.out]
        refine ⟨_, hown2, z1.kept z2 hgr2, Apart.app z1 z2 (n := w1.heap.size + 1) (by simp) hu2, ((thn y4 x4).alloc (by have := y4.size; omega) _).grown hgr2 (by have := y4.size; simp <;> omega) (own_base H1.out.1)⟩
      clear hown2 hgr2 hu2
      go_wp2_with fail
      go_roundw
      case rel => exact ⟨k + 1, by omega, by go_num, HN⟩
      case measure => simp [intOf]; omega
    · have HE := Lib.hid (show L.take k = L by rw [List.take_of_length_le (by omega)])
      go_wp2_with fail
      go_ret
      obtain ⟨vs, h1, h2, h3, h4⟩ := HI.out
      rw [HE.out] at h1 h2
      exact ⟨u3, vs, rfl, h1, h2, h3, h4⟩
end Go.Proofs.YtapnnheggjahlaaGreatDoor
