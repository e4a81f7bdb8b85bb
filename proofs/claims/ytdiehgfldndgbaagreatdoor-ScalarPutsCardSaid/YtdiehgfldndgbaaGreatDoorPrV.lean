/-
  CONTRACT of scalar.parted over values: the conditions and the values of a case.
-/
import Derived.Test.YtdiehgfldndgbaaGreatDoorGA09
import Derived.Test.YtdiehgfldndgbaaGreatDoorGA13
namespace Go.Proofs.YtdiehgfldndgbaaGreatDoor
open Go.RowKit

/-- two rows that grow, apart from one another -/
def QInv (w wr : World) (v2 v3 : Value) (a b : List V) : Prop :=
  wr.ownsRow w.heap.size 27 3 v2 a.length (vcells a) ∧ wr.ownsRow w.heap.size 27 3 v3 b.length (vcells b) ∧ (∀ g, v2.ownBlock = some g → v3.ownBlock ≠ some g) ∧ Below w.heap.size w wr
theorem QInv.swap {w wr : World} {v2 v3 : Value} {a b : List V} (h : QInv w wr v2 v3 a b) : QInv w wr v3 v2 b a := ⟨h.2.1, h.1, fun g h1 h2 => h.2.2.1 g h2 h1, h.2.2.2⟩
theorem QInv.grow {w wr w1 : World} {v2 v3 v' : Value} {a b : List V} {c : V} {o1 o2 : Obj} (h : QInv w wr v2 v3 a b) (ho : w1.ownsRow w.heap.size 27 3 v' (a.length + 1) (vcells a ++ vcells [c])) (hg : ((wr.alloc o1).alloc o2).grownBy w1 v2.ownBlock) (hv : v'.ownBlock = v2.ownBlock ∨ v'.ownBlock = some ((wr.alloc o1).alloc o2).heap.size) : QInv w w1 v' v3 (a ++ [c]) b := by
  refine ⟨?_, ?_, ?_, ?_⟩
  · rw [vcells_append, List.length_append]; exact ho
  · refine ((h.2.1.alloc _).alloc _).kept hg ?_
    cases hv3 : v3.ownBlock with
    | none => exact .inl rfl
    | some g => exact .inr fun e => h.2.2.1 g e.symm hv3
  · intro g hg2 e
    rcases hv with h1 | h1
    · exact h.2.2.1 g (h1 ▸ hg2) e
    · rw [h1] at hg2
      injection hg2 with hg2
      have := (h.2.1.lt g e).2
      simp at hg2
      omega
  · exact ((al (al h.2.2.2 _) _)).grown hg (by have := h.2.2.2.size; simp <;> omega) (own_base h.1)
set_option maxHeartbeats 2000000 in
set_option maxRecDepth 100000 in
theorem parted_val (A : Option Addr) (c : Nat) (l : List V) (w : World) (hr : VReads w w.heap.size A l) (h0 : 0 < l.length) (hn : l.length ≤ 1000000) :
    Calls Tryz.prog 240 #[.slice A l.length c] w fun e w' => ∃ v2 v3, e = .returned (.tuple #[v2, v3]) ∧ QInv w w' v2 v3 (conds l) (vals l) := by
  obtain ⟨i0, hi, hz0, hz1, hz2⟩ := info_parts infoV
  have HR := Lib.hid hr
  have HE := Lib.hid (pc_conds l 0 (l.length - 1) rfl (by omega))
  obtain ⟨last, hlast⟩ : ∃ last : Nat, last = l.length - 1 := ⟨_, rfl⟩
  rw [← hlast] at HE
  have hli : (l.length : Int) - 1 = (last : Int) := by omega
  clear hr hlast
  go_enter Tryz.func240, Tryz.ntmps240
  go_wp2_with fail
  clear hli
  go_loopw [2, 3, 12] (fun v2 v3 iv wr => ∃ j : Nat, j ≤ l.length ∧ iv = .int .i64 j ∧ Hid (QInv w wr v2 v3 (pc last 0 (l.take j)) (pv last 0 (l.take j)))) (fun _ _ iv _ => l.length - (intOf iv).toNat)
  case atStart => exact ⟨0, Nat.zero_le _, rfl, ⟨rfl, .inl ⟨rfl, rfl⟩⟩, ⟨rfl, .inl ⟨rfl, rfl⟩⟩, (fun g h => by cases h), Below.refl _ _⟩
  case round =>
    obtain ⟨j, hj, rfl, HI⟩ := hrel
    by_cases hlt : j < l.length
    · obtain ⟨b, o, rfl, hblk, c0, c1, c2⟩ := (HR.out.below HI.out.2.2.2 HI.out.2.2.2.size).at_ hlt
      have hlti : (j : Int) < (l.length : Int) := by omega
      have HTk := Lib.hid (List.take_succ_eq_append_getElem hlt)
      have hjl : (l.take j).length = j := by rw [List.length_take]; omega
      have hpl := pc_len last (l.take j) 0
      rw [hjl] at hpl
      have hP := pc_snoc last (l.take j) 0 l[j]
      have hV := pv_snoc last (l.take j) 0 l[j]
      rw [← HTk.out, Nat.zero_add, hjl] at hP hV
      have hBs := HI.out.2.2.2.size
      have hRd : ∀ ob, Reads ((wr.alloc ob).alloc (.cells #[.int .i64 l[j].k, .int .i64 l[j].n, .string l[j].s] 27)) (wr.heap.size + 1 + 1) 3 (some ⟨wr.heap.size + 1, 0, none⟩) 1 (vcells [l[j]]) := fun ob => (VReads.one (Blk.new' (g := wr.heap.size + 1) (by simp)) (Nat.lt_succ_self _)).reads
      by_cases hc : j % 2 = 0 ∧ j < last
      · rw [if_pos hc] at hP hV
        rw [List.append_nil] at hV
        have HPV := Lib.hid (And.intro hP hV)
        have hm : (((j : Int) % 2) == 0) = true := by rw [beq_iff_eq]; omega
        have hm2 : ((j : Int).tmod 2 == 0) = true := by rw [Int.tmod_eq_emod_of_nonneg (by omega)]; exact hm
        have hd : decide (j < last) = true := decide_eq_true hc.2
        clear hP hV hc hjl
        have hb1 : (pc last 0 (l.take j)).length + 1 ≤ maxLen := by unfold maxLen; omega
        have hb2 : ((pc last 0 (l.take j)).length + 1) * 32 ≤ 140737488355328 := by omega
        go_wp2_with (at_builtin; refine wpList_append_any _ rfl (.tmp 25) (.tmp 27) 73 rfl w.heap.size 27 i0 (.agg #[.int .i64 0, .int .i64 0, .string ⟨#[]⟩]) 3 32 Tryz.underlying73 hi hz0 hz1 hz2 rfl (by decide) _ _ _ rfl ((HI.out.1.alloc _).alloc _) (wr.heap.size + 1 + 1) _ 1 1 (vcells [l[j]]) rfl (hRd _) (vcells_one _) hb1 hb2 (by simp; omega) ?_)
        intro v' w1 hown1 hgrow hvb
        have HN : Hid (QInv w w1 v' u3 (pc last 0 (l.take (j + 1))) (pv last 0 (l.take (j + 1)))) := Lib.hid (by rw [HPV.out.1, HPV.out.2]; exact HI.out.grow hown1 hgrow (by simpa using hvb))
        clear hown1 hgrow hvb hpl hRd hb1 hb2
        go_wp2_with fail
        first | exact ⟨⟨j + 1, by omega, by go_num, HN⟩, by simp [intOf]; omega⟩ | (go_roundw; case rel => exact ⟨j + 1, by omega, by go_num, HN⟩; case measure => simp [intOf]; omega)
      · rw [if_neg hc] at hP hV
        rw [List.append_nil] at hP
        have HPV := Lib.hid (And.intro hP hV)
        by_cases hm0 : j % 2 = 0
        · have hm : (((j : Int) % 2) == 0) = true := by rw [beq_iff_eq]; omega
          have hm2 : ((j : Int).tmod 2 == 0) = true := by rw [Int.tmod_eq_emod_of_nonneg (by omega)]; exact hm
          have hd : decide (j < last) = false := decide_eq_false (by omega)
          clear hP hV hc hjl
          have hb1 : (pv last 0 (l.take j)).length + 1 ≤ maxLen := by unfold maxLen; omega
          have hb2 : ((pv last 0 (l.take j)).length + 1) * 32 ≤ 140737488355328 := by omega
          go_wp2_with (at_builtin; refine wpList_append_any _ rfl (.tmp 29) (.tmp 31) 73 rfl w.heap.size 27 i0 (.agg #[.int .i64 0, .int .i64 0, .string ⟨#[]⟩]) 3 32 Tryz.underlying73 hi hz0 hz1 hz2 rfl (by decide) _ _ _ rfl ((HI.out.2.1.alloc _).alloc _) (wr.heap.size + 1 + 1) _ 1 1 (vcells [l[j]]) rfl (hRd _) (vcells_one _) hb1 hb2 (by simp; omega) ?_)
          intro v' w1 hown1 hgrow hvb
          have HN : Hid (QInv w w1 u2 v' (pc last 0 (l.take (j + 1))) (pv last 0 (l.take (j + 1)))) := Lib.hid (by rw [HPV.out.1, HPV.out.2]; exact (HI.out.swap.grow hown1 hgrow (by simpa using hvb)).swap)
          clear hown1 hgrow hvb hpl hRd hb1 hb2
          go_wp2_with fail
          first | exact ⟨⟨j + 1, by omega, by go_num, HN⟩, by simp [intOf]; omega⟩ | (go_roundw; case rel => exact ⟨j + 1, by omega, by go_num, HN⟩; case measure => simp [intOf]; omega)
        · have hm : (((j : Int) % 2) == 0) = false := by rw [beq_eq_false_iff_ne]; omega
          have hm2 : ((j : Int).tmod 2 == 0) = false := by rw [Int.tmod_eq_emod_of_nonneg (by omega)]; exact hm
          clear hP hV hc hjl
          have hb1 : (pv last 0 (l.take j)).length + 1 ≤ maxLen := by unfold maxLen; omega
          have hb2 : ((pv last 0 (l.take j)).length + 1) * 32 ≤ 140737488355328 := by omega
          go_wp2_with (at_builtin; refine wpList_append_any _ rfl (.tmp 29) (.tmp 31) 73 rfl w.heap.size 27 i0 (.agg #[.int .i64 0, .int .i64 0, .string ⟨#[]⟩]) 3 32 Tryz.underlying73 hi hz0 hz1 hz2 rfl (by decide) _ _ _ rfl ((HI.out.2.1.alloc _).alloc _) (wr.heap.size + 1 + 1) _ 1 1 (vcells [l[j]]) rfl (hRd _) (vcells_one _) hb1 hb2 (by simp; omega) ?_)
          intro v' w1 hown1 hgrow hvb
          have HN : Hid (QInv w w1 u2 v' (pc last 0 (l.take (j + 1))) (pv last 0 (l.take (j + 1)))) := Lib.hid (by rw [HPV.out.1, HPV.out.2]; exact (HI.out.swap.grow hown1 hgrow (by simpa using hvb)).swap)
          clear hown1 hgrow hvb hpl hRd hb1 hb2
          go_wp2_with fail
          first | exact ⟨⟨j + 1, by omega, by go_num, HN⟩, by simp [intOf]; omega⟩ | (go_roundw; case rel => exact ⟨j + 1, by omega, by go_num, HN⟩; case measure => simp [intOf]; omega)
    · have hlf : decide ((j : Int) < (l.length : Int)) = false := decide_eq_false (by omega)
      have HN : Hid (QInv w wr u2 u3 (conds l) (vals l)) := Lib.hid (by
        have h := HI.out
        rw [List.take_of_length_le (by omega)] at h
        rw [← HE.out.1, ← HE.out.2]
        exact h)
      go_wp2_with fail
      go_ret2
      exact ⟨u2, u3, rfl, HN.out⟩
end Go.Proofs.YtdiehgfldndgbaaGreatDoor
