/-
  CONTRACTS of the statements' helper Cut.
-/
import Derived.Test.YtmhddoikicapjaaGreatDoorApp
namespace Go.Proofs.YtmhddoikicapjaaGreatDoor
open Go.RowKit

theorem infoV : (Tryz.prog.info? 35).map (fun i => (i.zero, i.size, i.bytes)) = some (some (.agg #[.int .i64 0, .int .i64 0, .string ⟨#[]⟩]), 3, 32) := by kernel_rfl

/-- a value whose text is cut -/
def V.cut (v : V) : V := ⟨v.k, v.n, v.s.extract 0 (min (v.s.size : Int) 202).toNat⟩
def cut (m : Nat) (l : List V) : List V := (l.take m).map V.cut

theorem cut_succ {l : List V} {k : Nat} (h : k < l.length) : cut (k + 1) l = cut k l ++ [V.cut l[k]] := by
  unfold cut
  rw [List.take_succ_eq_append_getElem h, List.map_append]; rfl
set_option maxHeartbeats 400000 in
set_option maxRecDepth 100000 in
theorem Cut_any (m : Nat) (A : Option Addr) (c : Nat) (l : List V) (w : World) (hr : VReads w w.heap.size A l) (hf : VFit l) (hn : l.length ≤ maxLen) (hm : m ≤ 1000) :
    Calls Tryz.prog 7 #[.slice A l.length c, .int .i64 m] w fun e w' => ∃ v, e = .returned v ∧ w'.ownsRow w.heap.size 35 3 v (cut m l).length (vcells (cut m l)) ∧ Below w.heap.size w w' := by
  unfold maxLen at hn
  obtain ⟨i0, hi, hz0, hz1, hz2⟩ := info_parts infoV
  go_enter Tryz.func7, Tryz.ntmps7
  go_wp2_with fail
  go_loopw [5, 6] (fun v i wr => ∃ k : Nat, k ≤ l.length ∧ k ≤ m ∧ i = .int .i64 k ∧ Hid (wr.ownsRow w.heap.size 35 3 v (cut k l).length (vcells (cut k l))) ∧ Hid (Below w.heap.size w wr)) (fun _ i _ => l.length - (intOf i).toNat)
  case atStart => exact ⟨0, Nat.zero_le _, Nat.zero_le _, rfl, ⟨rfl, .inl ⟨rfl, rfl⟩⟩, Below.refl _ _⟩
  case round =>
    obtain ⟨k, hk, hkm, rfl, HO, HB⟩ := hrel
    by_cases hlt : k < l.length
    · by_cases hlm : k < m
      · obtain ⟨b, o, rfl, hblk, c0, c1, c2⟩ := (hr.below HB.out HB.out.size).at_ hlt
        have hsz := hf l[k] (List.getElem_mem hlt)
        have HS := Lib.hid hsz
        clear hsz
        have hlc : (cut k l).length = k := by unfold cut; simp; omega
        have HL := Lib.hid hlc
        have HM := Lib.hid hm
        clear hlc hm
        go_wp2_with (at_builtin; refine wpList_append_any _ rfl (.tmp 31) (.tmp 33) 22 rfl w.heap.size 35 i0 (.agg #[.int .i64 0, .int .i64 0, .string ⟨#[]⟩]) 3 32 Tryz.underlying22 hi hz0 hz1 hz2 rfl (by decide) _ _ _ rfl ((HO.out.alloc _).alloc _) (wr.heap.size + 1 + 1) _ 1 1 (vcells [V.cut l[k]]) rfl ?c0 ?c1 ?c2 ?c3 ?c4 ?_)
        case c0 => exact (VReads.one (Blk.new' (g := wr.heap.size + 1) (by simp)) (Nat.lt_succ_self _)).reads
        case c1 => exact vcells_one _
        case c2 => have := HL.out; have := HM.out; unfold maxLen; omega
        case c3 => have := HL.out; have := HM.out; omega
        case c4 => have := HB.out.size; simp <;> omega
        intro v' w1 hown1 hgrow _
        have HO1 : Hid (w1.ownsRow w.heap.size 35 3 v' (cut (k + 1) l).length (vcells (cut (k + 1) l))) := by
          rw [cut_succ hlt, vcells_append, List.length_append]
          exact hown1
        have HB1 : Hid (Below w.heap.size w w1) := ((al (al HB.out _) _)).grown hgrow (by have := HB.out.size; simp <;> omega) (own_base HO.out)
        clear hown1 hgrow
        go_wp2_with fail
        go_roundw
        case rel => exact ⟨k + 1, by omega, by omega, by go_num, HO1, HB1⟩
        case measure => simp [intOf]; omega
      · have hkm' : k = m := by omega
        have HR : Hid (cut k l = cut m l) := by rw [hkm']; trivial
        clear hkm'
        go_wp2_with fail
        go_ret
        exact ⟨u5, rfl, by rw [← HR.out]; exact HO.out, HB.out⟩
    · have HR : Hid (cut k l = cut m l) := by
        show cut k l = cut m l
        unfold cut
        rw [List.take_of_length_le (by omega), List.take_of_length_le (by omega)]
      go_wp2_with fail
      go_ret
      exact ⟨u5, rfl, by rw [← HR.out]; exact HO.out, HB.out⟩
end Go.Proofs.YtmhddoikicapjaaGreatDoor
