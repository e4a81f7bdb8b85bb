/-
  THE WALK of RowsOrders.
-/
import Derived.Test.YtapnnheggjahlaaGreatDoorLngR
namespace Go.Proofs.YtapnnheggjahlaaGreatDoor
open Go.RowKit

def InV (l : List V) : Prop := l.length ≤ maxLen ∧ ∀ v ∈ l, v.s.size ≤ maxLen ∧ I64 v.n
theorem InV.fit {l : List V} (h : InV l) : VFit l := fun v hv => (h.2 v hv).1
theorem InV.cut {l : List V} {m : Nat} (h : InV l) : InV (cut m l) := by
  refine ⟨?_, fun v hv => ?_⟩
  · have : (Go.Proofs.YtapnnheggjahlaaGreatDoor.cut m l).length ≤ l.length := by unfold Go.Proofs.YtapnnheggjahlaaGreatDoor.cut; simp; omega
    exact Nat.le_trans this h.1
  · unfold Go.Proofs.YtapnnheggjahlaaGreatDoor.cut at hv
    obtain ⟨u, hu, rfl⟩ := List.mem_map.1 hv
    have := h.2 u (List.mem_of_mem_take hu)
    exact ⟨cut_size u this.1, this.2⟩
theorem InL.cutL {L : List (List V)} {m : Nat} (h : InL L) : InL (cutL m L) := by
  refine ⟨?_, fun r hr => ?_⟩
  · have : (Go.Proofs.YtapnnheggjahlaaGreatDoor.cutL m L).length ≤ L.length := by unfold Go.Proofs.YtapnnheggjahlaaGreatDoor.cutL; simp; omega
    exact Nat.le_trans this h.1
  · unfold Go.Proofs.YtapnnheggjahlaaGreatDoor.cutL at hr
    obtain ⟨s, hs, rfl⟩ := List.mem_map.1 hr
    exact InV.cut (h.2 s (List.mem_of_mem_take hs))
theorem cut_len18 (l : List V) : (cut 18 l).length ≤ 18 := by unfold cut; simp; omega
theorem cutL_rows {m : Nat} {L : List (List V)} : ∀ r ∈ cutL m L, r.length ≤ 18 := fun r hr => by
  unfold cutL at hr
  obtain ⟨s, _, rfl⟩ := List.mem_map.1 hr
  exact cut_len18 s
theorem cutL_len (m : Nat) (L : List (List V)) : (cutL m L).length ≤ m := by unfold cutL; simp; omega
theorem chkR_nil (L : List (List V)) : chkR [L, []] = chkR [L] := by simp [chkR, bigL, badL]
theorem LReads.nil_ (w : World) (B : Nat) (A : Option Addr) : LReads w B A [] := fun h => by simp at h
theorem own_cap {w : World} {base n c : Nat} {e : TypeId} {size : Nat} {A : Option Addr} {xs : List Value} (h : w.ownsRow base e size (.slice A n c) n xs) : n ≤ c := by
  rcases h.2 with ⟨h1, h0⟩ | ⟨g, cap, cur, h1, hb, hh, hnc, _⟩
  · cases h1; exact Nat.le_refl _
  · cases h1; exact hnc
theorem RowsCompare_any (A A' : Option Addr) (c c' : Nat) (a b : List V) (w : World) (hA : Plain A) (hA' : Plain A') (hr : VReads w w.heap.size A a) (hr2 : VReads w w.heap.size A' b) (hi : InL [a, b]) :
    Calls Tryz.prog 24 #[.slice A a.length c, .slice A' b.length c'] w fun e w' => ∃ n : Int, e = .returned (.tuple #[.int .i64 n, .int .i64 (chkR [[a, b]])]) ∧ (chkR [[a, b]] = 0 → n = cmpR a b) ∧ (chkR [[a, b]] ≠ 0 → n = 0) ∧ Below w.heap.size w w' := by
  by_cases h0 : chkR [[a, b]] = 0
  · exact (RowsCompare_ok A A' c c' a b w hA hA' hr hr2 hi h0).mono fun e w' ⟨h1, h2⟩ => ⟨_, by rw [h0]; exact h1, fun _ => rfl, fun h => absurd h0 h, h2⟩
  · exact (RowsCompare_err A A' c c' a b w hA hA' hr hr2 hi h0).mono fun e w' ⟨h1, h2⟩ => ⟨_, h1, fun h => absurd h h0, fun _ => rfl, h2⟩
theorem Canonical_any (A : Option Addr) (c : Nat) (L : List (List V)) (w : World) (hr : LReads w w.heap.size A L) (hi : InL L) :
    Calls Tryz.prog 25 #[.slice A L.length c] w fun e w' => ∃ (Ao : Option Addr) (no co : Nat), e = .returned (.tuple #[.slice Ao no co, .int .i64 (chkR [L])]) ∧ (chkR [L] = 0 → no = (canon L).length ∧ LReads w' w'.heap.size Ao (canon L)) ∧ (chkR [L] ≠ 0 → no = 0) ∧ Below w.heap.size w w' := by
  by_cases h0 : chkR [L] = 0
  · exact (Canonical_ok A c L w hr hi h0).mono fun e w' ⟨g, vs, h1, h2, h3, h4, h5⟩ => ⟨_, _, _, by rw [h0]; exact h1, fun _ => ⟨(srtC_len L).symm, h4.lreads h3⟩, fun h => absurd h0 h, h5⟩
  · exact (Canonical_err A c L w hr hi h0).mono fun e w' ⟨h1, h2⟩ => ⟨_, _, _, h1, fun h => absurd h h0, fun _ => rfl, h2⟩

set_option maxHeartbeats 4000000 in
theorem RowsOrders_any (A A' AL : Option Addr) (c c' cL : Nat) (a b : List V) (L : List (List V)) (many : Bool) (w : World) (hG : G w) (hr : VReads w w.heap.size A a) (hr2 : VReads w w.heap.size A' b) (hl : LReads0 w w.heap.size AL L) (ha : InV a) (hb : InV b) (hL : InL L) :
    Calls Tryz.prog 4 #[.slice A a.length c, .slice A' b.length c', .slice AL L.length cL, .bool many] w fun e w' => e = .returned (.bool true) ∧ Below w.heap.size w w' := by
  have HG := Lib.hid hG
  have HA := Lib.hid (And.intro hr (And.intro hr2 hl))
  have HF := Lib.hid (And.intro ha (And.intro hb hL))
  clear hG hr hr2 hl ha hb hL
  go_enter Tryz.func4, Tryz.ntmps4
  go_wp2_with fail
  refine (CutRow_any A c a w HA.out.1 HF.out.1.fit HF.out.1.1).mono ?_
  rintro e w1 ⟨v1, rfl, ho, hb⟩
  obtain ⟨A1, c1, rfl, hp, hv⟩ := own_plain ho
  have X := Lib.hid (And.intro hp (And.intro hv hb))
  clear ho hp hv hb
  go_wp2_with fail
  refine (CutRow_any A' c' b w1 (HA.out.2.1.below X.out.2.2 X.out.2.2.size) HF.out.2.1.fit HF.out.2.1.1).mono ?_
  rintro e w2 ⟨v2, rfl, ho, hb⟩
  obtain ⟨A2, c2, rfl, hp, hv⟩ := own_plain ho
  have Y := Lib.hid (And.intro hp (And.intro hv hb))
  have B2 := Lib.hid (thn X.out.2.2 hb)
  clear ho hp hv hb
  go_wp2_with fail
  refine (CutL_any 30 AL cL L w2 (HA.out.2.2.below B2.out B2.out.size) HF.out.2.2.fit (by omega)).mono ?_
  rintro e w3 ⟨v3, vs3, rfl, ho, hrs, _, hb⟩
  obtain ⟨A3, c3, rfl, hl3⟩ := OutR.lreads ⟨vs3, ho, hrs⟩
  have Z := Lib.hid (And.intro (Reads.of_own ho) (And.intro hrs.rowsR (And.intro hl3 hb)))
  clear ho hrs hl3 hb
  go_wp2_with fail
  refine (longR_any many A3 c3 (cutL 30 L) vs3 w3 Z.out.1 Z.out.2.1 Z.out.2.2.1 (by have := cutL_len 30 L; omega)).mono ?_
  rintro e w4 ⟨v4, vs4, out, rfl, ho, hrs, hm, hlen, hb⟩
  obtain ⟨A4, c4, rfl, hl4⟩ := own_lreads ho hrs hb.size
  have hcap := own_cap ho
  have B3 := Lib.hid (thn B2.out Z.out.2.2.2)
  have B4 := Lib.hid (thn B3.out hb)
  have HI : Hid (InL out ∧ (∀ r ∈ out, r.length ≤ 18) ∧ InL [cut 18 a, cut 18 b] ∧ out.length ≤ c4 ∧ out.length ≤ 21000) :=
    ⟨⟨by unfold maxLen; omega, fun r h => (InL.cutL HF.out.2.2).2 r (hm r h)⟩, fun r h => cutL_rows r (hm r h), ⟨by simp [maxLen], fun r h => by
      simp only [List.mem_cons, List.not_mem_nil, or_false] at h
      rcases h with rfl | rfl
      · exact HF.out.1.cut
      · exact HF.out.2.1.cut⟩, hcap, hlen⟩
  have hlen2 := Nat.le_trans hlen (Nat.le_refl _)
  have S := Lib.hid (And.intro X.out.1 (And.intro ((X.out.2.1.below Y.out.2.2 Y.out.2.2.size).below (thn Z.out.2.2.2 hb) (thn Z.out.2.2.2 hb).size) (And.intro Y.out.1 (And.intro (Y.out.2.1.below (thn Z.out.2.2.2 hb) (thn Z.out.2.2.2 hb).size) (And.intro hl4 (HG.out.thn B4.out))))))
  have HV : Hid (VFit (cut 18 a) ∧ VFit (cut 18 b) ∧ (cut 18 a).length ≤ 18 ∧ (cut 18 b).length ≤ 18) := ⟨HF.out.1.cut.fit, HF.out.2.1.cut.fit, cut_len18 a, cut_len18 b⟩
  have S4 := Lib.hid B4.out
  clear ho hrs hm hlen hb hl4 hcap X Y Z B2 B3 B4 HA HF HG
  generalize cut 18 a = x at *
  generalize cut 18 b = y at *
  generalize cutL 30 L = L0 at *
  go_wp2_with fail
  refine (RowsCompare_any A1 A2 c1 c2 x y w4 S.out.1 S.out.2.2.1 S.out.2.1 S.out.2.2.2.1 HI.out.2.2.1).mono ?_
  rintro e w5 ⟨n1, rfl, hn1, hn1', hb⟩
  have N1 := Lib.hid (And.intro hn1 (And.intro hn1' hb))
  clear hn1 hn1' hb
  go_wp2_with fail
  refine (Canonical_any A4 c4 out w5 (S.out.2.2.2.2.1.below N1.out.2.2 N1.out.2.2.size) HI.out.1).mono ?_
  rintro e w6 ⟨Ao, no, co, rfl, hn2, hn2', hb⟩
  have N2 := Lib.hid (And.intro hn2 (And.intro hn2' hb))
  have B6 := Lib.hid (thn N1.out.2.2 hb)
  clear hn2 hn2' hb
  go_wp2_with fail
  have p1 := Blk.new w6 34 #[.slice A1 x.length c1, .slice A2 y.length c2]
  have p2 : Below w6.heap.size w6 (w6.alloc (.cells #[.slice A1 x.length c1, .slice A2 y.length c2] 34)) := al (Below.refl _ _) _
  have p4 := thn B6.out p2
  have p3 := rows_two p1 S.out.1 S.out.2.2.1 (S.out.2.1.below p4 p4.size) (S.out.2.2.2.1.below p4 p4.size)
  refine (RList_any _ none 2 0 [x, y] [] _ p3 (LReads.nil_ _ _ _) HI.out.2.2.1.fit ⟨by simp, fun r h => by simp at h⟩).mono ?_
  rintro e w7 ⟨rfl, hb⟩
  have B7 := Lib.hid (And.intro (thn p4 hb) (thn p2 hb))
  clear p1 p2 p3 p4 hb
  rw [chkR_nil]
  by_cases hk : chkR [[x, y]] = 0
  · have e1 := Lib.hid (N1.out.1 hk)
    rw [hk]
    go_wp2_with fail
    refine (RCompare_rows A1 A2 c1 c2 x y w7 (S.out.2.1.below B7.out.1 B7.out.1.size) (S.out.2.2.2.1.below B7.out.1 B7.out.1.size) HV.out.1 HV.out.2.1 (by have := HV.out.2.2.1; unfold maxLen; omega) (by have := HV.out.2.2.2; unfold maxLen; omega)).mono ?_
    rintro e w8 ⟨rfl, hb⟩
    have B8 := Lib.hid (And.intro (thn B7.out.1 hb) (thn B7.out.2 hb))
    clear hb
    rw [← e1.out]
    have hne : (n1 != n1) = false := by simp
    go_wp2_with fail
    refine (RList_any A4 none c4 0 out [] w8 (S.out.2.2.2.2.1.below B8.out.1 B8.out.1.size) (LReads.nil_ _ _ _) HI.out.1.fit ⟨by simp, fun r h => by simp at h⟩).mono ?_
    rintro e w9 ⟨rfl, hb⟩
    have B9 := Lib.hid (And.intro (thn B8.out.1 hb) (thn B8.out.2 hb))
    clear hb
    rw [chkR_nil]
    by_cases hj : chkR [out] = 0
    · have e2 := N2.out.1 hj
      have HC := Lib.hid (And.intro e2.1 (And.intro e2.2 (srtC_len (c := cmpR) out)))
      obtain ⟨en, -⟩ := e2
      have hln : (canon out).length = out.length := srtC_len out
      rw [hln] at en
      subst en
      rw [hj]
      clear hln
      go_wp2_with fail
      refine (RCanonical_any A4 c4 out w9 (S.out.2.2.2.2.1.below B9.out.1 B9.out.1.size) (fun r h => ⟨by have := HI.out.2.1 r h; omega, fun v hv => ((HI.out.1.2 r h).2 v hv).1⟩) HI.out.2.2.2.1 (by have := HI.out.2.2.2.2; omega)).mono ?_
      rintro e w10 ⟨A10, c10, rfl, hl, hb⟩
      have B10 := Lib.hid (And.intro (thn B9.out.1 hb) (And.intro (thn B9.out.2 hb) hl))
      clear hl hb
      go_wp2_with fail
      have hcl : (canon out).length = out.length := srtC_len out
      have q := REqual_same Ao A10 co c10 (canon out) w10 (HC.out.2.1.below B10.out.2.1 B10.out.2.1.size) B10.out.2.2 ⟨by rw [hcl]; exact HI.out.1.1, fun r hr => HI.out.1.2 r (srtC_mem.1 hr)⟩
      rw [hcl] at q
      refine q.mono ?_
      rintro e w11 ⟨rfl, hb⟩
      have B11 := Lib.hid (thn B10.out.1 hb)
      clear hb q hcl
      go_wp2_with fail
      refine (awake_any w11 (S.out.2.2.2.2.2.thn B11.out)).mono ?_
      rintro e w12 ⟨rfl, hb⟩
      have B12 := Lib.hid (thn B11.out hb)
      clear hb
      go_wp2_with fail
      go_ret
      exact ⟨rfl, thn S4.out B12.out⟩
    · have e2 := N2.out.2.1 hj
      subst e2
      have hj2 : (chkR [out] != 0) = true := by simp [hj]
      have hj3 : (chkR [out] == chkR [out]) = true := by simp
      generalize chkR [out] = k2 at *
      go_wp2_with fail
      refine (awake_any w9 (S.out.2.2.2.2.2.thn B9.out.1)).mono ?_
      rintro e w12 ⟨rfl, hb⟩
      have B12 := Lib.hid (thn B9.out.1 hb)
      clear hb
      go_wp2_with fail
      go_ret
      exact ⟨rfl, thn S4.out B12.out⟩
  · have e1 := N1.out.2.1 hk
    subst e1
    have hk2 : (chkR [[x, y]] != 0) = true := by simp [hk]
    have hk3 : (chkR [[x, y]] != chkR [[x, y]]) = false := by simp
    generalize chkR [[x, y]] = k1 at *
    go_wp2_with fail
    refine (RList_any A4 none c4 0 out [] w7 (S.out.2.2.2.2.1.below B7.out.1 B7.out.1.size) (LReads.nil_ _ _ _) HI.out.1.fit ⟨by simp, fun r h => by simp at h⟩).mono ?_
    rintro e w9 ⟨rfl, hb⟩
    have B9 := Lib.hid (And.intro (thn B7.out.1 hb) (thn B7.out.2 hb))
    clear hb
    rw [chkR_nil]
    by_cases hj : chkR [out] = 0
    · have e2 := N2.out.1 hj
      have HC := Lib.hid (And.intro e2.1 (And.intro e2.2 (srtC_len (c := cmpR) out)))
      obtain ⟨en, -⟩ := e2
      have hln : (canon out).length = out.length := srtC_len out
      rw [hln] at en
      subst en
      rw [hj]
      clear hln
      go_wp2_with fail
      refine (RCanonical_any A4 c4 out w9 (S.out.2.2.2.2.1.below B9.out.1 B9.out.1.size) (fun r h => ⟨by have := HI.out.2.1 r h; omega, fun v hv => ((HI.out.1.2 r h).2 v hv).1⟩) HI.out.2.2.2.1 (by have := HI.out.2.2.2.2; omega)).mono ?_
      rintro e w10 ⟨A10, c10, rfl, hl, hb⟩
      have B10 := Lib.hid (And.intro (thn B9.out.1 hb) (And.intro (thn B9.out.2 hb) hl))
      clear hl hb
      go_wp2_with fail
      have hcl : (canon out).length = out.length := srtC_len out
      have q := REqual_same Ao A10 co c10 (canon out) w10 (HC.out.2.1.below B10.out.2.1 B10.out.2.1.size) B10.out.2.2 ⟨by rw [hcl]; exact HI.out.1.1, fun r hr => HI.out.1.2 r (srtC_mem.1 hr)⟩
      rw [hcl] at q
      refine q.mono ?_
      rintro e w11 ⟨rfl, hb⟩
      have B11 := Lib.hid (thn B10.out.1 hb)
      clear hb q hcl
      go_wp2_with fail
      refine (awake_any w11 (S.out.2.2.2.2.2.thn B11.out)).mono ?_
      rintro e w12 ⟨rfl, hb⟩
      have B12 := Lib.hid (thn B11.out hb)
      clear hb
      go_wp2_with fail
      go_ret
      exact ⟨rfl, thn S4.out B12.out⟩
    · have e2 := N2.out.2.1 hj
      subst e2
      have hj2 : (chkR [out] != 0) = true := by simp [hj]
      have hj3 : (chkR [out] == chkR [out]) = true := by simp
      generalize chkR [out] = k2 at *
      go_wp2_with fail
      refine (awake_any w9 (S.out.2.2.2.2.2.thn B9.out.1)).mono ?_
      rintro e w12 ⟨rfl, hb⟩
      have B12 := Lib.hid (thn B9.out.1 hb)
      clear hb
      go_wp2_with fail
      go_ret
      exact ⟨rfl, thn S4.out B12.out⟩
end Go.Proofs.YtapnnheggjahlaaGreatDoor
