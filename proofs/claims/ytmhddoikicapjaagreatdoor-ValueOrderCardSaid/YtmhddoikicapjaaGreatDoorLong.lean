/-
  CONTRACT of the statements' helper Long.
-/
import Derived.Test.YtmhddoikicapjaaGreatDoorCut
namespace Go.Proofs.YtmhddoikicapjaaGreatDoor
open Go.RowKit

theorem own_empty (w : World) (e : TypeId) (size : Nat) : (w.alloc (.cells #[] e)).ownsRow w.heap.size e size (.slice (some ⟨w.heap.size, 0, none⟩) 0 0) 0 [] :=
  ⟨by simp, .inr ⟨w.heap.size, 0, #[], rfl, Nat.le_refl _, heap_alloc_new w _, Nat.le_refl _, Nat.zero_le _, by simp, by simp⟩⟩
def lenOf : Value → Nat
  | .slice _ n _ => n
  | _ => 0
set_option maxHeartbeats 400000 in
set_option maxRecDepth 100000 in
theorem Long_any (x : Bool) (A : Option Addr) (c : Nat) (l : List V) (w : World) (hr : VReads w w.heap.size A l) (hn : l.length ≤ 1000) :
    Calls Tryz.prog 6 #[.slice A l.length c, .bool x] w fun e w' => ∃ v out, e = .returned v ∧ w'.ownsRow w.heap.size 35 3 v out.length (vcells out) ∧ (∀ y ∈ out, y ∈ l) ∧ out.length ≤ 21000 ∧ Below w.heap.size w w' := by
  obtain ⟨i0, hi, hz0, hz1, hz2⟩ := info_parts infoV
  have HN := Lib.hid hn
  clear hn
  go_enter Tryz.func6, Tryz.ntmps6
  have hown0 := own_empty w 35 3
  have hr0 := hr.below (al (Below.refl w.heap.size w) (.cells #[] 35)) (by simp <;> omega : _ ≤ w.heap.size + 1)
  go_wp2_with (at_builtin; refine wpList_append_any _ rfl (.tmp 6) (.tmp 7) 22 rfl w.heap.size 35 i0 (.agg #[.int .i64 0, .int .i64 0, .string ⟨#[]⟩]) 3 32 Tryz.underlying22 hi hz0 hz1 hz2 rfl (by decide) _ 0 [] rfl hown0 (w.heap.size + 1) A l.length c (vcells l) rfl ?c0 ?c1 ?c2 ?c3 ?c4 ?_)
  case c0 => exact hr0.reads
  case c1 => exact vcells_one _
  case c2 => have := HN.out; unfold maxLen; omega
  case c3 => have := HN.out; omega
  case c4 => simp <;> omega
  intro v' w1 hown1 hgrow _
  have HO1 : Hid (w1.ownsRow w.heap.size 35 3 v' l.length (vcells l)) := hown1
  have HB1 : Hid (Below w.heap.size w w1) := (al (Below.refl _ _) _).grown hgrow (by simp <;> omega) (own_base hown0)
  clear hown1 hgrow hown0 hr0
  go_wp2_with fail
  go_loopw [5] (fun v wr => ∃ out : List V, Hid (wr.ownsRow w.heap.size 35 3 v out.length (vcells out)) ∧ Hid (∀ y ∈ out, y ∈ l) ∧ out.length ≤ 21000 ∧ Hid (Below w.heap.size w wr)) (fun v _ => 20001 - lenOf v)
  case atStart => exact ⟨l, HO1, fun y hy => hy, by have := HN.out; omega, HB1⟩
  case round =>
    obtain ⟨out, HO, HM, hlen, HB⟩ := hrel
    obtain ⟨A', c', hv, hc1, hc2, hrd, _⟩ := own_reads HO.out
    subst hv
    have HC1 := Lib.hid hc1
    have HC2 := Lib.hid hc2
    have HL := Lib.hid hlen
    clear hc1 hc2 hrd hlen HO1 HB1
    cases x with
    | false =>
      go_wp2_with fail
      go_ret
      exact ⟨_, out, rfl, HO.out, HM.out, HL.out, HB.out⟩
    | true =>
      by_cases h0 : 0 < l.length
      · by_cases h2 : out.length ≤ 20000
        · go_wp2_with (at_builtin; refine wpList_append_any _ rfl (.tmp 20) (.tmp 21) 22 rfl w.heap.size 35 i0 (.agg #[.int .i64 0, .int .i64 0, .string ⟨#[]⟩]) 3 32 Tryz.underlying22 hi hz0 hz1 hz2 rfl (by decide) _ _ _ rfl HO.out wr.heap.size A l.length c (vcells l) rfl ?d0 ?d1 ?d2 ?d3 ?d4 ?_)
          case d0 => exact (hr.below HB.out HB.out.size).reads
          case d1 => exact vcells_one _
          case d2 => have := HN.out; have := HL.out; unfold maxLen; omega
          case d3 => have := HN.out; have := HL.out; omega
          case d4 => exact HB.out.size
          intro v2 w2 hown2 hgrow2 _
          have HO2 : Hid (w2.ownsRow w.heap.size 35 3 v2 (out ++ l).length (vcells (out ++ l))) := by
            rw [vcells_append, List.length_append]; exact hown2
          have HB2 : Hid (Below w.heap.size w w2) := HB.out.grown hgrow2 HB.out.size (own_base HO.out)
          obtain ⟨A2, c2, hv2, _, _, _, _⟩ := own_reads HO2.out
          have HV2 := Lib.hid hv2
          have HM2 : Hid (∀ y ∈ out ++ l, y ∈ l) := fun y hy => (List.mem_append.1 hy).elim (HM.out y) id
          clear hown2 hgrow2 hv2
          go_wp2_with fail
          go_roundw
          case rel => exact ⟨out ++ l, HO2, HM2, by rw [List.length_append]; have := HN.out; omega, HB2⟩
          case measure => rw [HV2.out]; simp [lenOf]; omega
        · go_wp2_with fail
          go_ret
          exact ⟨_, out, rfl, HO.out, HM.out, HL.out, HB.out⟩
      · go_wp2_with fail
        go_ret
        exact ⟨_, out, rfl, HO.out, HM.out, HL.out, HB.out⟩
end Go.Proofs.YtmhddoikicapjaaGreatDoor
