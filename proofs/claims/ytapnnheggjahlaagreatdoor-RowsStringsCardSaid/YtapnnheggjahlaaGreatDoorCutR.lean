/-
  CONTRACTS of the statements' helpers CutRow and Cut.
-/
import Derived.Test.YtapnnheggjahlaaGreatDoorGK
import Derived.Test.YtapnnheggjahlaaGreatDoorGC
namespace Go.Proofs.YtapnnheggjahlaaGreatDoor
open Go.RowKit

set_option maxHeartbeats 400000 in
set_option maxRecDepth 100000 in
theorem CutRow_any (A : Option Addr) (c : Nat) (l : List V) (w : World) (hr : VReads w w.heap.size A l) (hf : VFit l) (hn : l.length ≤ maxLen) :
    Calls Tryz.prog 23 #[.slice A l.length c] w fun e w' => ∃ v, e = .returned v ∧ w'.ownsRow w.heap.size 78 3 v (cut 18 l).length (vcells (cut 18 l)) ∧ Below w.heap.size w w' := by
  have hn := Nat.le_trans hn (Nat.le_refl _)
  unfold maxLen at hn
  obtain ⟨i0, hi, hz0, hz1, hz2⟩ := info_parts infoV
  go_enter Tryz.func23, Tryz.ntmps23
  go_wp2_with fail
  go_loopw [3, 4] (fun v i wr => ∃ k : Nat, k ≤ l.length ∧ k ≤ 18 ∧ i = .int .i64 k ∧ Hid (wr.ownsRow w.heap.size 78 3 v (cut k l).length (vcells (cut k l))) ∧ Hid (Below w.heap.size w wr)) (fun _ i _ => l.length - (intOf i).toNat)
  case atStart => exact ⟨0, Nat.zero_le _, Nat.zero_le _, rfl, ⟨rfl, .inl ⟨rfl, rfl⟩⟩, Below.refl _ _⟩
  case round =>
    obtain ⟨k, hk, hkm, rfl, HO, HB⟩ := hrel
    by_cases hlt : k < l.length
    · by_cases hlm : k < 18
      · obtain ⟨b, o, rfl, hblk, c0, c1, c2⟩ := (hr.below HB.out HB.out.size).at_ hlt
        have hsz := hf l[k] (List.getElem_mem hlt)
        have HS := Lib.hid hsz
        clear hsz
        have hlc : (cut k l).length = k := by unfold cut; simp; omega
        have HL := Lib.hid hlc
        clear hlc
        go_wp2_with (at_builtin; refine wpList_append_any _ rfl (.tmp 28) (.tmp 30) 34 rfl w.heap.size 78 i0 (.agg #[.int .i64 0, .int .i64 0, .string ⟨#[]⟩]) 3 32 Tryz.underlying34 hi hz0 hz1 hz2 rfl (by decide) _ _ _ rfl ((HO.out.alloc _).alloc _) (wr.heap.size + 1 + 1) _ 1 1 (vcells [V.cut l[k]]) rfl ?c0 ?c1 ?c2 ?c3 ?c4 ?_)
        case c0 => exact (VReads.one (Blk.new' (g := wr.heap.size + 1) (by simp)) (Nat.lt_succ_self _)).reads
        case c1 => exact vcells_one _
        case c2 => have := HL.out; unfold maxLen; omega
        case c3 => have := HL.out; omega
        case c4 => have := HB.out.size; simp <;> omega
        intro v' w1 hown1 hgrow _
        have HO1 : Hid (w1.ownsRow w.heap.size 78 3 v' (cut (k + 1) l).length (vcells (cut (k + 1) l))) := by
          rw [cut_succ hlt, vcells_append, List.length_append]
          exact hown1
        have HB1 : Hid (Below w.heap.size w w1) := ((al (al HB.out _) _)).grown hgrow (by have := HB.out.size; simp <;> omega) (own_base HO.out)
        clear hown1 hgrow
        go_wp2_with fail
        go_roundw
        case rel => exact ⟨k + 1, by omega, by omega, by go_num, HO1, HB1⟩
        case measure => simp [intOf]; omega
      · have hkm' : k = 18 := by omega
        have HR : Hid (cut k l = cut 18 l) := by rw [hkm']; trivial
        clear hkm'
        go_wp2_with fail
        go_ret
        exact ⟨u3, rfl, by rw [← HR.out]; exact HO.out, HB.out⟩
    · have HR : Hid (cut k l = cut 18 l) := by
        show cut k l = cut 18 l
        unfold cut
        rw [List.take_of_length_le (by omega), List.take_of_length_le (by omega)]
      go_wp2_with fail
      go_ret
      exact ⟨u3, rfl, by rw [← HR.out]; exact HO.out, HB.out⟩

def cutL (m : Nat) (L : List (List V)) : List (List V) := (L.take m).map (cut 18)
theorem cutL_succ {L : List (List V)} {k : Nat} (h : k < L.length) : cutL (k + 1) L = cutL k L ++ [cut 18 L[k]] := by
  unfold cutL
  rw [List.take_succ_eq_append_getElem h, List.map_append]; rfl
theorem sread_one {w : World} {g B : Nat} {T : TypeId} {u : Value} (h : Blk w g T #[u]) (hg : g < B) : Reads w B 1 (some ⟨g, 0, none⟩) 1 [u] :=
  ⟨rfl, fun _ => ⟨_, rfl, hg, fun j x hj => by
    rw [addN, Nat.zero_add, h.cell j]
    match j, hj with
    | 0, hj => simpa using hj
    | j + 1, hj => simp at hj⟩⟩
def Apart (u : Value) (vs : List Value) : Prop := ∀ x ∈ vs, x.ownBlock = none ∨ x.ownBlock ≠ u.ownBlock
theorem OwnRs.kept {w w' : World} {base : Nat} {u : Value} {vs : List Value} {S : List (List V)} (h : OwnRs w base vs S) (ha : Apart u vs) (hg : w.grownBy w' u.ownBlock) : OwnRs w' base vs S :=
  ⟨h.1, fun i v r hv hr => (h.2 i v r hv hr).kept hg (ha v (List.mem_of_getElem? hv))⟩
theorem OwnRs.lt {w : World} {base : Nat} {vs : List Value} {S : List (List V)} (h : OwnRs w base vs S) : ∀ x ∈ vs, ∀ k, x.ownBlock = some k → base ≤ k ∧ k < w.heap.size := fun x hx k hk => by
  obtain ⟨i, hi, e⟩ := List.getElem_of_mem hx
  exact (h.2 i x (S[i]'(by rw [← h.1]; exact hi)) (by simp [hi, e]) (by simp [show i < S.length by rw [← h.1]; exact hi])).lt k hk
/-- what append gives stands apart from the rows -/
theorem Apart.app {w : World} {base : Nat} {u u' : Value} {vs : List Value} {S : List (List V)} {n : Nat} (h : OwnRs w base vs S) (ha : Apart u vs) (hn : w.heap.size ≤ n) (hu : u'.ownBlock = u.ownBlock ∨ u'.ownBlock = some n) : Apart u' vs := fun x hx => by
  rcases hu with e | e
  · rw [e]; exact ha x hx
  · rw [e]
    cases hk : x.ownBlock with
    | none => exact .inl rfl
    | some k =>
      refine .inr fun e2 => ?_
      cases e2
      have := (h.lt x hx _ hk).2
      omega

/-- a list of rows that came in: where an empty row lies is not known -/
def LReads0 (w : World) (B : Nat) (A : Option Addr) (L : List (List V)) : Prop :=
  0 < L.length → ∃ b o, A = some ⟨b, o, none⟩ ∧ b < B ∧ ∀ i r, L[i]? = some r → ∃ Ar c, w.cell? ⟨b, o + i, none⟩ = some (.slice Ar r.length c) ∧ VReads w B Ar r
theorem LReads.to0 {w : World} {B : Nat} {A : Option Addr} {L : List (List V)} (h : LReads w B A L) : LReads0 w B A L := fun h0 => by
  obtain ⟨b, o, rfl, hblk, hc⟩ := h h0
  exact ⟨b, o, rfl, hblk, fun i r hi => by
    obtain ⟨Ar, c, h1, _, h3⟩ := hc i r hi
    exact ⟨Ar, c, h1, h3⟩⟩
theorem LReads0.below {w w' : World} {B B' : Nat} {A : Option Addr} {L : List (List V)} (h : LReads0 w B A L) (hb : Below B w w') (hB : B ≤ B') : LReads0 w' B' A L := fun h0 => by
  obtain ⟨b, o, rfl, hblk, hc⟩ := h h0
  refine ⟨b, o, rfl, by omega, fun i r hi => ?_⟩
  obtain ⟨Ar, c, h1, h3⟩ := hc i r hi
  exact ⟨Ar, c, (hb.cell (p := ⟨b, _, none⟩) hblk).trans h1, h3.below hb hB⟩
theorem LReads0.at_ {w : World} {B : Nat} {A : Option Addr} {L : List (List V)} (h : LReads0 w B A L) {i : Nat} (hi : i < L.length) : ∃ b o Ar c, A = some ⟨b, o, none⟩ ∧ b < B ∧ w.cell? ⟨b, o + i, none⟩ = some (.slice Ar L[i].length c) ∧ VReads w B Ar L[i] := by
  obtain ⟨b, o, rfl, hblk, hc⟩ := h (by omega)
  obtain ⟨Ar, c, h1, h3⟩ := hc i _ (List.getElem?_eq_getElem hi)
  exact ⟨b, o, Ar, c, rfl, hblk, h1, h3⟩
set_option maxHeartbeats 1000000 in
theorem CutL_any (m : Nat) (A : Option Addr) (c : Nat) (L : List (List V)) (w : World) (hr : LReads0 w w.heap.size A L) (hf : LFit L) (hm : m ≤ 1000) :
    Calls Tryz.prog 16 #[.slice A L.length c, .int .i64 m] w fun e w' => ∃ v vs, e = .returned v ∧ w'.ownsRow w.heap.size 34 1 v (cutL m L).length vs ∧ OwnRs w' w.heap.size vs (cutL m L) ∧ Apart v vs ∧ Below w.heap.size w w' := by
  have hLl := hf.1
  have HR := Lib.hid (And.intro hr hf)
  obtain ⟨i0, hi, hz0, hz1, hz2⟩ := info_parts infoR
  unfold maxLen at hLl
  clear hr hf
  go_enter Tryz.func16, Tryz.ntmps16
  go_wp2_with fail
  go_loopw [5, 6] (fun v i wr => ∃ k : Nat, k ≤ L.length ∧ k ≤ m ∧ i = .int .i64 k ∧ Hid (∃ vs, wr.ownsRow w.heap.size 34 1 v (cutL k L).length vs ∧ OwnRs wr w.heap.size vs (cutL k L) ∧ Apart v vs ∧ Below w.heap.size w wr)) (fun _ i _ => L.length - (intOf i).toNat)
  case atStart => exact ⟨0, Nat.zero_le _, Nat.zero_le _, rfl, [], ⟨rfl, .inl ⟨rfl, rfl⟩⟩, OwnRs.nil _ _, fun x hx => (by cases hx), Below.refl _ _⟩
  case round =>
    obtain ⟨k, hk, hkm, rfl, HI⟩ := hrel
    by_cases hlt : k < L.length
    · by_cases hlm : k < m
      · obtain ⟨vs, hown, hrs, hap, hbw⟩ := HI.out
        obtain ⟨b, o, Ar, cr, rfl, hblk, hc, hv⟩ := (HR.out.1.below hbw hbw.size).at_ hlt
        have hfr := HR.out.2.2 L[k] (List.getElem_mem hlt)
        have HO := Lib.hid (And.intro hown (And.intro hrs (And.intro hap (And.intro hbw (And.intro hv hfr)))))
        have hlc : (cutL k L).length = k := by unfold cutL; simp; omega
        have HL := Lib.hid (And.intro hlc hm)
        clear hlc hm hown hrs hap hbw hv hfr HI
        go_wp2_with fail
        refine (CutRow_any Ar cr L[k] wr HO.out.2.2.2.2.1 HO.out.2.2.2.2.2.2 HO.out.2.2.2.2.2.1).mono ?_
        rintro e w1 ⟨v, rfl, hvo, hvb⟩
        obtain ⟨a1, c1, rfl⟩ := own_slice hvo
        have hsz := hvb.size
        have q1 := Blk.new w1 34 #[.slice a1 (cut 18 L[k]).length c1]
        have q2 := sread_one q1 (B := w1.heap.size + 1) (by omega)
        have hul := HO.out.1.lt
        have H1 := Lib.hid (And.intro ((own_below HO.out.1 hvb).alloc (.cells #[.slice a1 (cut 18 L[k]).length c1] 34)) (And.intro q2 (And.intro hvo (And.intro hvb hul))))
        clear hvo hvb q1 q2 hul
        go_wp2_with (at_builtin; refine wpList_append_any _ rfl (.tmp 18) (.tmp 24) 23 rfl w.heap.size 34 i0 (.slice none 0 0) 1 24 Tryz.underlying23 hi hz0 hz1 hz2 rfl (by decide) _ _ _ rfl H1.out.1 (w1.heap.size + 1) _ 1 1 [.slice a1 (cut 18 L[k]).length c1] rfl H1.out.2.1 ?c1 ?c2 ?c3 ?c4 ?_)
        case c1 => intro u hu; simp only [List.mem_cons, List.not_mem_nil, or_false] at hu; subst hu; rfl
        case c2 => have := HL.out; unfold maxLen; omega
        case c3 => have := HL.out; omega
        case c4 => have := HO.out.2.2.2.1.size; simp <;> omega
        intro v2 w2 hown2 hgr2 hu2
        have HN : Hid (∃ vs, w2.ownsRow w.heap.size 34 1 v2 (cutL (k + 1) L).length vs ∧ OwnRs w2 w.heap.size vs (cutL (k + 1) L) ∧ Apart v2 vs ∧ Below w.heap.size w w2) := by
          obtain ⟨x1, x2, x3, x4, x5⟩ := H1.out
          obtain ⟨y1, y2, y3, y4, -⟩ := HO.out
          have z1 := (OwnRs.snoc (y2.below x4) (own_weaker x3 y4.size)).below (al (Below.refl _ _) (.cells #[.slice a1 (cut 18 L[k]).length c1] 34))
          have z2 : Apart u5 (vs ++ [.slice a1 (cut 18 L[k]).length c1]) := fun x hx => by
            rcases List.mem_append.1 hx with h | h
            · exact y3 x h
            · simp only [List.mem_cons, List.not_mem_nil, or_false] at h
              subst h
              cases hb : Value.ownBlock (.slice a1 (cut 18 L[k]).length c1) with
              | none => exact .inl rfl
              | some g =>
                refine .inr fun e => ?_
                have := (x3.lt g hb).1
                have := (x5 g e.symm).2
                omega
          rw [cutL_succ hlt, List.length_append]
          refine ⟨_, hown2, z1.kept z2 hgr2, Apart.app z1 z2 (n := w1.heap.size + 1) (by simp) hu2, ((thn y4 x4).alloc (by have := y4.size; omega) _).grown hgr2 (by have := y4.size; simp <;> omega) (own_base H1.out.1)⟩
        clear hown2 hgr2 hu2
        go_wp2_with fail
        go_roundw
        case rel => exact ⟨k + 1, by omega, by omega, by go_num, HN⟩
        case measure => simp [intOf]; omega
      · have hkm' : k = m := by omega
        have HE := Lib.hid (show cutL k L = cutL m L by rw [hkm'])
        clear hkm'
        go_wp2_with fail
        go_ret
        obtain ⟨vs, h1, h2, h3, h4⟩ := HI.out
        rw [← HE.out]
        exact ⟨u5, vs, rfl, h1, h2, h3, h4⟩
    · have HE : Hid (cutL k L = cutL m L) := by
        show cutL k L = cutL m L
        unfold cutL
        rw [List.take_of_length_le (by omega), List.take_of_length_le (by omega)]
      go_wp2_with fail
      go_ret
      obtain ⟨vs, h1, h2, h3, h4⟩ := HI.out
      rw [← HE.out]
      exact ⟨u5, vs, rfl, h1, h2, h3, h4⟩
end Go.Proofs.YtapnnheggjahlaaGreatDoor
