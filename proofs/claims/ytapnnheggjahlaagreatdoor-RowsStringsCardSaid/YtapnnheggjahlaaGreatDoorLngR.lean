/-
  CONTRACT of the statements' helper long.
-/
import Derived.Test.YtapnnheggjahlaaGreatDoorCan
namespace Go.Proofs.YtapnnheggjahlaaGreatDoor
open Go.RowKit

theorem RowsR.one {w : World} {B : Nat} {vs : List Value} {S : List (List V)} (h : RowsR w B vs S) : ∀ u ∈ vs, u.oneCell' = true := fun u hu => by
  obtain ⟨i, hi, e⟩ := List.getElem_of_mem hu
  obtain ⟨Ar, c, h1, _, _⟩ := h.2 i (S[i]'(by rw [← h.1]; exact hi)) (by simp [show i < S.length by rw [← h.1]; exact hi])
  rw [List.getElem?_eq_getElem hi, e] at h1
  cases h1
  rfl
theorem OwnRs.rowsR {w : World} {base : Nat} {vs : List Value} {S : List (List V)} (h : OwnRs w base vs S) : RowsR w w.heap.size vs S :=
  ⟨h.1, fun i r hi => by
    have hlt : i < vs.length := by rw [h.1]; exact (List.getElem?_eq_some_iff.1 hi).1
    obtain ⟨A, c, e, hp, hv⟩ := own_plain (h.2 i vs[i] r (by simp [hlt]) hi)
    exact ⟨A, c, by simp [hlt, e], hp, hv⟩⟩
set_option maxHeartbeats 1000000 in
set_option maxRecDepth 100000 in
theorem longR_any (x : Bool) (A : Option Addr) (c : Nat) (L : List (List V)) (vl : List Value) (w : World) (hr : Reads w w.heap.size 1 A L.length vl) (hR : RowsR w w.heap.size vl L) (hl : LReads w w.heap.size A L) (hn : L.length ≤ 1000) :
    Calls Tryz.prog 15 #[.slice A L.length c, .bool x] w fun e w' => ∃ v vs out, e = .returned v ∧ w'.ownsRow w.heap.size 34 1 v out.length vs ∧ RowsR w' w.heap.size vs out ∧ (∀ r ∈ out, r ∈ L) ∧ out.length ≤ 21000 ∧ Below w.heap.size w w' := by
  obtain ⟨i0, hi, hz0, hz1, hz2⟩ := info_parts infoR
  have HN := Lib.hid hn
  have HR := Lib.hid (And.intro hr hR)
  have HL := Lib.hid hl
  have HE0 := Lib.hid (own_empty w 34 1)
  have HRd := Lib.hid ((hr.below (al (Below.refl w.heap.size w) (.cells #[] 34))).more (by simp <;> omega : _ ≤ w.heap.size + 1))
  clear hn hr hR hl
  go_enter Tryz.func15, Tryz.ntmps15
  go_wp2_with (at_builtin; refine wpList_append_any _ rfl (.tmp 6) (.tmp 7) 23 rfl w.heap.size 34 i0 (.slice none 0 0) 1 24 Tryz.underlying23 hi hz0 hz1 hz2 rfl (by decide) _ 0 [] rfl HE0.out (w.heap.size + 1) A L.length c vl rfl HRd.out ?c1 ?c2 ?c3 ?c4 ?_)
  case c1 => exact HR.out.2.one
  case c2 => have := HN.out; unfold maxLen; omega
  case c3 => have := HN.out; omega
  case c4 => simp <;> omega
  intro v' w1 hown1 hgrow _
  have HO1 : Hid (∃ (vs : List Value) (out : List (List V)), w1.ownsRow w.heap.size 34 1 v' out.length vs ∧ RowsR w1 w.heap.size vs out ∧ (∀ r ∈ out, r ∈ L) ∧ out.length ≤ 21000 ∧ Below w.heap.size w w1) := by
    have hb : Below w.heap.size w w1 := (al (Below.refl _ _) _).grown hgrow (by simp <;> omega) (own_base HE0.out)
    refine ⟨vl, L, ?_, HR.out.2.below hb, fun r h => h, by have := HN.out; omega, hb⟩
    exact hown1
  clear hown1 hgrow HE0 HRd
  go_wp2_with fail
  go_loopw [5] (fun v wr => Hid (∃ (vs : List Value) (out : List (List V)), wr.ownsRow w.heap.size 34 1 v out.length vs ∧ RowsR wr w.heap.size vs out ∧ (∀ r ∈ out, r ∈ L) ∧ out.length ≤ 21000 ∧ Below w.heap.size w wr)) (fun v _ => 20001 - lenOf v)
  case atStart => exact HO1
  case round =>
    obtain ⟨vs, out, s1, s2, s3, s4, s5⟩ := hrel.out
    obtain ⟨A', c', rfl⟩ := own_slice s1
    have HI := Lib.hid (And.intro s1 (And.intro s2 (And.intro s3 (And.intro s4 s5))))
    clear s1 s2 s3 s5 HO1 hrel
    cases x with
    | false =>
      go_wp2_with fail
      go_ret
      exact ⟨_, vs, out, rfl, HI.out⟩
    | true =>
      by_cases h0 : 0 < L.length
      · by_cases h2 : out.length ≤ 20000
        · obtain ⟨b, o, Ar, cr, rfl, hblk, hc, hp, hv⟩ := HL.out.at_ h0
          have hc0 : wr.cell? ⟨b, o, none⟩ = some (.slice Ar L[0].length cr) := (HI.out.2.2.2.2.cell (p := ⟨b, o, none⟩) hblk).trans hc
          have HP := Lib.hid (And.intro hp hv)
          have hbw := HI.out.2.2.2.2.size
          have q1 := Blk.new wr 34 #[.slice Ar L[0].length cr]
          have q2 := sread_one q1 (B := wr.heap.size + 1) (by omega)
          have H9 := Lib.hid (And.intro (HI.out.1.alloc (.cells #[.slice Ar L[0].length cr] 34)) q2)
          have HM := Lib.hid (List.getElem_mem h0)
          clear hc hp hv q1 q2 hblk
          have h0i : (0 : Int) < (L.length : Int) := by omega
          go_wp2_with (at_builtin; refine wpList_append_any _ rfl (.tmp 20) (.tmp 24) 23 rfl w.heap.size 34 i0 (.slice none 0 0) 1 24 Tryz.underlying23 hi hz0 hz1 hz2 rfl (by decide) _ _ _ rfl H9.out.1 (wr.heap.size + 1) _ 1 1 [.slice Ar L[0].length cr] rfl H9.out.2 ?c1 ?c2 ?c3 ?c4 ?_)
          case c1 => intro u hu; simp only [List.mem_cons, List.not_mem_nil, or_false] at hu; subst hu; rfl
          case c2 => unfold maxLen; omega
          case c3 => omega
          case c4 => simp <;> omega
          intro v2 w2 hown2 hgr2 _
          obtain ⟨A2, c2, rfl⟩ := own_slice hown2
          have HN2 : Hid (∃ (vs : List Value) (out' : List (List V)), w2.ownsRow w.heap.size 34 1 (.slice A2 (out.length + 1) c2) out'.length vs ∧ RowsR w2 w.heap.size vs out' ∧ (∀ r ∈ out', r ∈ L) ∧ out'.length ≤ 21000 ∧ Below w.heap.size w w2) := by
            obtain ⟨x1, x2, x3, x4, x5⟩ := HI.out
            have hB2 : Below w.heap.size w w2 := (x5.alloc hbw _).grown hgr2 (by simp <;> omega) (own_base H9.out.1)
            have hB3 : Below w.heap.size wr w2 := ((Below.refl _ _).alloc hbw _).grown hgr2 (by simp <;> omega) (own_base H9.out.1)
            refine ⟨vs ++ [.slice Ar L[0].length cr], out ++ [L[0]], by rw [List.length_append, List.length_singleton]; exact hown2, (x2.below hB3).snoc HP.out.1 (HP.out.2.below hB2 (Nat.le_refl _)), fun r hr => ?_, by rw [List.length_append, List.length_singleton]; omega, hB2⟩
            rcases List.mem_append.1 hr with h | h
            · exact x3 r h
            · simp only [List.mem_cons, List.not_mem_nil, or_false] at h
              subst h
              exact HM.out
          clear hown2 hgr2
          go_wp2_with fail
          go_roundw
          case rel => exact HN2
          case measure => simp [lenOf]; omega
        · go_wp2_with fail
          go_ret
          exact ⟨_, vs, out, rfl, HI.out⟩
      · go_wp2_with fail
        go_ret
        exact ⟨_, vs, out, rfl, HI.out⟩
end Go.Proofs.YtapnnheggjahlaaGreatDoor
