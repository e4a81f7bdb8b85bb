/-
  CONTRACTS of the statements' helpers Cut, Long.
-/
import Derived.Test.YtmbakenfbdbapaaDoorApp
namespace Go.Proofs.YtmbakenfbdbapaaDoor
open Go.RowKit

theorem infoV : (Tryd.prog.info? 24).map (fun i => (i.zero, i.size, i.bytes)) = some (some (.agg #[.int .i64 0, .int .i64 0, .string ⟨#[]⟩]), 3, 32) := by kernel_rfl

/-- a value whose text is cut -/
def V.cut (v : V) : V := ⟨v.k, v.n, v.s.extract 0 (min (v.s.size : Int) 202).toNat⟩
def cut (m : Nat) (l : List V) : List V := (l.take m).map V.cut

theorem cut_succ {l : List V} {k : Nat} (h : k < l.length) : cut (k + 1) l = cut k l ++ [V.cut l[k]] := by
  unfold cut
  rw [List.take_succ_eq_append_getElem h, List.map_append]; rfl
set_option maxHeartbeats 400000 in
set_option maxRecDepth 100000 in
theorem Cut_any (m : Nat) (A : Option Addr) (c : Nat) (l : List V) (w : World) (hr : VReads w w.heap.size A l) (hf : VFit l) (hn : l.length ≤ maxLen) (hm : m ≤ 1000) :
    Calls Tryd.prog 8 #[.slice A l.length c, .int .i64 m] w fun e w' => ∃ v, e = .returned v ∧ w'.ownsRow w.heap.size 24 3 v (cut m l).length (vcells (cut m l)) ∧ Below w.heap.size w w' := by
  unfold maxLen at hn
  obtain ⟨i0, hi, hz0, hz1, hz2⟩ := info_parts infoV
  go_enter Tryd.func8, Tryd.ntmps8
  go_wp2_with fail
  go_loopw [5, 6] (fun v i wr => ∃ k : Nat, k ≤ l.length ∧ k ≤ m ∧ i = .int .i64 k ∧ Hid (wr.ownsRow w.heap.size 24 3 v (cut k l).length (vcells (cut k l))) ∧ Hid (Below w.heap.size w wr)) (fun _ i _ => l.length - (intOf i).toNat)
  case atStart => exact ⟨0, Nat.zero_le _, Nat.zero_le _, rfl, ⟨rfl, .inl ⟨rfl, rfl⟩⟩, Below.refl _ _⟩
  case round =>
    obtain ⟨k, hk, hkm, rfl, HO, HB⟩ := hrel
    by_cases hlt : k < l.length
    · by_cases hlm : k < m
      · obtain ⟨b, o, rfl, hblk, c0, c1, c2⟩ := (hr.below HB.out HB.out.size).at_ hlt
        have hsz := hf l[k] (List.getElem_mem hlt)
        have HS := Lib.hid hsz
        clear hsz
        have hlc : (cut k l).length = k := by unfold cut; simp; omega
        have HL := Lib.hid hlc
        have HM := Lib.hid hm
        clear hlc hm
        go_wp2_with (at_builtin; refine wpList_append_any _ rfl (.tmp 31) (.tmp 33) 25 rfl w.heap.size 24 i0 (.agg #[.int .i64 0, .int .i64 0, .string ⟨#[]⟩]) 3 32 Tryd.underlying25 hi hz0 hz1 hz2 rfl (by decide) _ _ _ rfl ((HO.out.alloc _).alloc _) (wr.heap.size + 1 + 1) _ 1 1 (vcells [V.cut l[k]]) rfl ?c0 ?c1 ?c2 ?c3 ?c4 ?_)
        case c0 => exact (VReads.one (Blk.new' (g := wr.heap.size + 1) (by simp)) (Nat.lt_succ_self _)).reads
        case c1 => exact vcells_one _
        case c2 => have := HL.out; have := HM.out; unfold maxLen; omega
        case c3 => have := HL.out; have := HM.out; omega
        case c4 => have := HB.out.size; simp <;> omega
        intro v' w1 hown1 hgrow _
        have HO1 : Hid (w1.ownsRow w.heap.size 24 3 v' (cut (k + 1) l).length (vcells (cut (k + 1) l))) := by
          rw [cut_succ hlt, vcells_append, List.length_append]
          exact hown1
        have HB1 : Hid (Below w.heap.size w w1) := ((al (al HB.out _) _)).grown hgrow (by have := HB.out.size; simp <;> omega) (own_base HO.out)
        clear hown1 hgrow
        go_wp2_with fail
        go_roundw
        case rel => exact ⟨k + 1, by omega, by omega, by go_num, HO1, HB1⟩
        case measure => simp [intOf]; omega
      · have hkm' : k = m := by omega
        have HR : Hid (cut k l = cut m l) := by rw [hkm']; trivial
        clear hkm'
        go_wp2_with fail
        go_ret
        exact ⟨u5, rfl, by rw [← HR.out]; exact HO.out, HB.out⟩
    · have HR : Hid (cut k l = cut m l) := by
        show cut k l = cut m l
        unfold cut
        rw [List.take_of_length_le (by omega), List.take_of_length_le (by omega)]
      go_wp2_with fail
      go_ret
      exact ⟨u5, rfl, by rw [← HR.out]; exact HO.out, HB.out⟩

theorem own_empty (w : World) (e : TypeId) (size : Nat) : (w.alloc (.cells #[] e)).ownsRow w.heap.size e size (.slice (some ⟨w.heap.size, 0, none⟩) 0 0) 0 [] :=
  ⟨by simp, .inr ⟨w.heap.size, 0, #[], rfl, Nat.le_refl _, heap_alloc_new w _, Nat.le_refl _, Nat.zero_le _, by simp, by simp⟩⟩
def lenOf : Value → Nat
  | .slice _ n _ => n
  | _ => 0
set_option maxHeartbeats 400000 in
set_option maxRecDepth 100000 in
theorem Long_any (x : Bool) (A : Option Addr) (c : Nat) (l : List V) (w : World) (hr : VReads w w.heap.size A l) (hn : l.length ≤ 1000) :
    Calls Tryd.prog 18 #[.slice A l.length c, .bool x] w fun e w' => ∃ v out, e = .returned v ∧ w'.ownsRow w.heap.size 24 3 v out.length (vcells out) ∧ (∀ y ∈ out, y ∈ l) ∧ out.length ≤ 21000 ∧ Below w.heap.size w w' := by
  obtain ⟨i0, hi, hz0, hz1, hz2⟩ := info_parts infoV
  have HN := Lib.hid hn
  clear hn
  go_enter Tryd.func18, Tryd.ntmps18
  have hown0 := own_empty w 24 3
  have hr0 := hr.below (al (Below.refl w.heap.size w) (.cells #[] 24)) (by simp <;> omega : _ ≤ w.heap.size + 1)
  go_wp2_with (at_builtin; refine wpList_append_any _ rfl (.tmp 6) (.tmp 7) 25 rfl w.heap.size 24 i0 (.agg #[.int .i64 0, .int .i64 0, .string ⟨#[]⟩]) 3 32 Tryd.underlying25 hi hz0 hz1 hz2 rfl (by decide) _ 0 [] rfl hown0 (w.heap.size + 1) A l.length c (vcells l) rfl ?c0 ?c1 ?c2 ?c3 ?c4 ?_)
  case c0 => exact hr0.reads
  case c1 => exact vcells_one _
  case c2 => have := HN.out; unfold maxLen; omega
  case c3 => have := HN.out; omega
  case c4 => simp <;> omega
  intro v' w1 hown1 hgrow _
  have HO1 : Hid (w1.ownsRow w.heap.size 24 3 v' l.length (vcells l)) := hown1
  have HB1 : Hid (Below w.heap.size w w1) := (al (Below.refl _ _) _).grown hgrow (by simp <;> omega) (own_base hown0)
  clear hown1 hgrow hown0 hr0
  go_wp2_with fail
  go_loopw [5] (fun v wr => ∃ out : List V, Hid (wr.ownsRow w.heap.size 24 3 v out.length (vcells out)) ∧ Hid (∀ y ∈ out, y ∈ l) ∧ out.length ≤ 21000 ∧ Hid (Below w.heap.size w wr)) (fun v _ => 20001 - lenOf v)
  case atStart => exact ⟨l, HO1, fun y hy => hy, by have := HN.out; omega, HB1⟩
  case round =>
    obtain ⟨out, HO, HM, hlen, HB⟩ := hrel
    obtain ⟨A', c', hv, hc1, hc2, hrd, _⟩ := own_reads HO.out
    subst hv
    have HC1 := Lib.hid hc1
    have HC2 := Lib.hid hc2
    have HL := Lib.hid hlen
    clear hc1 hc2 hrd hlen HO1 HB1
    cases x with
    | false =>
      go_wp2_with fail
      go_ret
      exact ⟨_, out, rfl, HO.out, HM.out, HL.out, HB.out⟩
    | true =>
      by_cases h0 : 0 < l.length
      · by_cases h2 : out.length ≤ 20000
        · go_wp2_with (at_builtin; refine wpList_append_any _ rfl (.tmp 20) (.tmp 21) 25 rfl w.heap.size 24 i0 (.agg #[.int .i64 0, .int .i64 0, .string ⟨#[]⟩]) 3 32 Tryd.underlying25 hi hz0 hz1 hz2 rfl (by decide) _ _ _ rfl HO.out wr.heap.size A l.length c (vcells l) rfl ?d0 ?d1 ?d2 ?d3 ?d4 ?_)
          case d0 => exact (hr.below HB.out HB.out.size).reads
          case d1 => exact vcells_one _
          case d2 => have := HN.out; have := HL.out; unfold maxLen; omega
          case d3 => have := HN.out; have := HL.out; omega
          case d4 => exact HB.out.size
          intro v2 w2 hown2 hgrow2 _
          have HO2 : Hid (w2.ownsRow w.heap.size 24 3 v2 (out ++ l).length (vcells (out ++ l))) := by
            rw [vcells_append, List.length_append]; exact hown2
          have HB2 : Hid (Below w.heap.size w w2) := HB.out.grown hgrow2 HB.out.size (own_base HO.out)
          obtain ⟨A2, c2, hv2, _, _, _, _⟩ := own_reads HO2.out
          have HV2 := Lib.hid hv2
          have HM2 : Hid (∀ y ∈ out ++ l, y ∈ l) := fun y hy => (List.mem_append.1 hy).elim (HM.out y) id
          clear hown2 hgrow2 hv2
          go_wp2_with fail
          go_roundw
          case rel => exact ⟨out ++ l, HO2, HM2, by rw [List.length_append]; have := HN.out; omega, HB2⟩
          case measure => rw [HV2.out]; simp [lenOf]; omega
        · go_wp2_with fail
          go_ret
          exact ⟨_, out, rfl, HO.out, HM.out, HL.out, HB.out⟩
      · go_wp2_with fail
        go_ret
        exact ⟨_, out, rfl, HO.out, HM.out, HL.out, HB.out⟩
end Go.Proofs.YtmbakenfbdbapaaDoor
