/-
  THE LAW ValueOwn: it returns true, whatever came in.
-/
import Derived.Test.YtmhddoikicapjaaGreatDoorLLists
import Derived.Test.YtmhddoikicapjaaGreatDoorRefT
import Derived.Deep.CutBlock
namespace Go.Proofs.YtmhddoikicapjaaGreatDoor
open Go.RowKit

/-- a list of right values -/
def Good (l : List V) : Prop := ∀ v ∈ l, V.ok v = true ∧ I64 v.n
theorem Good.fit {l : List V} (h : Good l) : VFit l := fun v hv => ok_size (h v hv).1
theorem Good.chk {l : List V} (h : Good l) (hn : l.length ≤ 20000) : chk l = 0 := chk_good hn (List.all_eq_true.2 fun v hv => (h v hv).1)
theorem Good.snoc {l : List V} {x : V} (h : Good l) (hx : V.ok x = true) (hi : I64 x.n) : Good (l ++ [x]) := fun v hv => by
  rcases List.mem_append.1 hv with hv | hv
  · exact h v hv
  · rw [List.mem_singleton.1 hv]; exact ⟨hx, hi⟩

/-- a store elsewhere -/
theorem own_far {w : World} {B : Nat} {e : TypeId} {v : Value} {n : Nat} {xs : List Value} (h : w.ownsRow B e 3 v n xs) {g : Nat} (hg : g < B) (i : Nat) (u : Value) : (w.setCell ⟨g, i, none⟩ u).ownsRow B e 3 v n xs := by
  refine ⟨h.1, ?_⟩
  rcases h.2 with h0 | ⟨g', cap, cur, rfl, hb, hh, hr⟩
  · exact .inl h0
  · exact .inr ⟨g', cap, cur, rfl, hb, Blk.far (t := e) (cs := cur) hh (by show g' ≠ g; omega) u, hr⟩
/-- the cells of a row of the call's own -/
theorem own_at {w : World} {B : Nat} {e : TypeId} {A : Option Addr} {n c : Nat} {cl : List V} (h : w.ownsRow B e 3 (.slice A n c) n (vcells cl)) {k : Nat} (hk : k < n) :
    ∃ g x, A = some ⟨g, 0, none⟩ ∧ B ≤ g ∧ g < w.heap.size ∧ cl.length = n ∧ (w.cell? ⟨g, k * 3, none⟩ = some (.int .i64 x.k) ∧ w.cell? ⟨g, k * 3 + 1, none⟩ = some (.int .i64 x.n) ∧ w.cell? ⟨g, k * 3 + 2, none⟩ = some (.string (V.s x))) ∧
      (w.frozen? ⟨g, k * 3, none⟩ = false ∧ w.frozen? ⟨g, k * 3 + 1, none⟩ = false ∧ w.frozen? ⟨g, k * 3 + 2, none⟩ = false) := by
  have hcl : cl.length = n := by have := h.1; rw [vcells_len] at this; omega
  have h2 := h
  rw [← hcl] at h2
  obtain ⟨A', c', hs, _, _, hr, hg⟩ := own_reads h2
  injection hs with e1 _ e3
  subst e1 e3
  obtain ⟨g, rfl, hb⟩ := hg (by omega)
  obtain ⟨b, o, ha, hlt, c0, c1, c2⟩ := hr.at_ (i := k) (by omega)
  injection ha with ha
  injection ha with e1 e2
  subst e1 e2
  rw [Nat.zero_add] at c0 c1 c2
  exact ⟨g, _, rfl, hb, hlt, hcl, ⟨c0, c1, c2⟩, own_free h _, own_free h _, own_free h _⟩

set_option maxHeartbeats 1000000 in
set_option maxRecDepth 100000 in
/-- a row of the call's own is written over, element by element -/
theorem own_law (A : Option Addr) (c : Nat) (l : List V) (w : World) (hG : G w) (hr : VReads w w.heap.size A l) (hf : VFit l) (hn : l.length ≤ maxLen) (hi : ∀ x ∈ l, I64 x.k ∧ I64 x.n) :
    Calls Tryz.prog 5 #[.slice A l.length c] w fun e w' => e = .returned (.bool true) ∧ Below w.heap.size w w' := by
  obtain ⟨i0, hi0, hz0, hz1, hz2⟩ := info_parts infoV
  have HG := Lib.hid hG
  have HF := Lib.hid hf
  have HI := Lib.hid hi
  have hn := Nat.le_trans hn (Nat.le_refl _)
  unfold maxLen at hn
  clear hG hf hi
  go_enter Tryz.func5, Tryz.ntmps5
  go_upto_block 0 with fail
  go_cut [3, 4] from 12 to 29 (fun v _ wx => ∃ (A1 : Option Addr) (c1 : Nat) (out : List V), v = .slice A1 out.length c1 ∧ out.length ≤ 20 ∧ Hid (Good out) ∧ Hid (Plain A1) ∧ Hid (VReads wx wx.heap.size A1 out) ∧ Hid (Below w.heap.size w wx))
  case first =>
    go_wp2_with fail
    go_loopw [3, 4] (fun v i wr => ∃ (k : Nat) (out : List V), k ≤ l.length ∧ k ≤ 20 ∧ i = .int .i64 k ∧ Hid (out.length = k) ∧ Hid (Good out) ∧ Hid (wr.ownsRow w.heap.size 35 3 v out.length (vcells out)) ∧ Hid (Below w.heap.size w wr)) (fun _ i _ => l.length - (intOf i).toNat)
    case atStart => exact ⟨0, [], Nat.zero_le _, Nat.zero_le _, rfl, rfl, (fun v hv => by cases hv), ⟨rfl, .inl ⟨rfl, rfl⟩⟩, Below.refl _ _⟩
    case round =>
      obtain ⟨k, out, hk, hk20, rfl, hol, HGd, HO, HB⟩ := hrel
      have hk0i : (0 : Int) ≤ (k : Int) := by omega
      by_cases hlt : k < l.length
      · have hlti : (k : Int) < (l.length : Int) := by omega
        by_cases hl20 : k < 20
        · have hl20i : (k : Int) < 20 := by omega
          obtain ⟨b1, o1, rfl, hk1, l0, l1, l2⟩ := (hr.below HB.out HB.out.size).at_ hlt
          have HS1 := Lib.hid (HF.out l[k] (List.getElem_mem hlt))
          have HI1 := Lib.hid (HI.out l[k] (List.getElem_mem hlt)).2
          go_wp2_with fail
          refine (Tame_any l[k].k l[k].n l[k].s _ HI1.out HS1.out).mono ?_
          rintro e w2 ⟨y, rfl, hy, hyn, hb2⟩
          have HG2 := Lib.hid (HGd.out.snoc hy hyn)
          have HO2 := Lib.hid (own_below HO.out hb2)
          have HB2 := Lib.hid (thn HB.out hb2)
          have HOL : Hid (out.length = k) := hol.out
          clear hb2 hy hyn l0 l1 l2
          go_wp2_with (at_builtin; refine wpList_append_any _ rfl (.tmp 22) (.tmp 28) 22 rfl w.heap.size 35 i0 (.agg #[.int .i64 0, .int .i64 0, .string ⟨#[]⟩]) 3 32 Tryz.underlying22 hi0 hz0 hz1 hz2 rfl (by decide) _ _ _ rfl (HO2.out.alloc _) (w2.heap.size + 1) _ 1 1 (vcells [y]) rfl ?c0 ?c1 ?c2 ?c3 ?c4 ?_)
          case c0 => exact (VReads.one (Blk.new' (g := w2.heap.size) rfl) (Nat.lt_succ_self _)).reads
          case c1 => exact vcells_one _
          case c2 => have := HOL.out; unfold maxLen; omega
          case c3 => have := HOL.out; omega
          case c4 => have := HB2.out.size; simp <;> omega
          intro v' w3 hown3 hgrow3 _
          have HO3 : Hid (w3.ownsRow w.heap.size 35 3 v' (out ++ [y]).length (vcells (out ++ [y]))) := by
            rw [vcells_append, List.length_append]
            exact hown3
          have HB3 : Hid (Below w.heap.size w w3) := (al HB2.out _).grown hgrow3 (by have := HB2.out.size; simp <;> omega) (own_base HO2.out)
          clear hown3 hgrow3
          go_wp2_with fail
          go_roundw
          case rel => exact ⟨k + 1, out ++ [y], by omega, by omega, by go_num, by show _ = _; rw [List.length_append, hol.out]; rfl, HG2.out, HO3, HB3⟩
          case measure => simp [intOf]; omega
        · have hl20i : ¬ (k : Int) < 20 := by omega
          obtain ⟨A1, c1, hv1, _, _, hr1, _⟩ := own_reads HO.out
          subst hv1
          have HR1 := Lib.hid hr1
          have HP1 := Lib.hid (own_plain HO.out)
          clear hr1
          go_wp2_with fail
          go_meet
          case rel => exact ⟨A1, c1, out, rfl, by have := hol.out; omega, HGd.out, HP1.out, HR1.out, HB.out⟩
      · obtain ⟨A1, c1, hv1, _, _, hr1, _⟩ := own_reads HO.out
        subst hv1
        have HR1 := Lib.hid hr1
        have HP1 := Lib.hid (own_plain HO.out)
        clear hr1
        go_wp2_with fail
        go_meet
        case rel => exact ⟨A1, c1, out, rfl, by have := hol.out; omega, HGd.out, HP1.out, HR1.out, HB.out⟩
  case rest =>
    obtain ⟨A1, c1, out, rfl, ho20, HGd, HP, HR, HB⟩ := hcut
    clear hr HF HI
    have hoi : (out.length : Int) ≤ 20 := by omega
    have HC := Lib.hid (HGd.out.chk (by omega))
    have HFt := Lib.hid HGd.out.fit
    have HSL := Lib.hid (srt_len out)
    have HDL := Lib.hid (dd_len (srt out))
    have hown0 := own_empty wc 35 3
    have hr0 := HR.out.below (al (Below.refl wc.heap.size wc) (.cells #[] 35)) (by simp <;> omega : _ ≤ wc.heap.size + 1)
    go_wp2_with (at_builtin; refine wpList_append_any _ rfl (.tmp 30) (.tmp 31) 22 rfl wc.heap.size 35 i0 (.agg #[.int .i64 0, .int .i64 0, .string ⟨#[]⟩]) 3 32 Tryz.underlying22 hi0 hz0 hz1 hz2 rfl (by decide) _ 0 [] rfl hown0 (wc.heap.size + 1) A1 out.length c1 (vcells out) rfl ?c0 ?c1 ?c2 ?c3 ?c4 ?_)
    case c0 => exact hr0.reads
    case c1 => exact vcells_one _
    case c2 => unfold maxLen; omega
    case c3 => omega
    case c4 => simp <;> omega
    intro v5 wk hown1 hgrow _
    have HO5 : Hid (wk.ownsRow wc.heap.size 35 3 v5 out.length (vcells out)) := hown1
    have HBk : Hid (Below wc.heap.size wc wk) := (al (Below.refl _ _) _).grown hgrow (by simp <;> omega) (own_base hown0)
    have W1 := Lib.hid (thn HB.out HBk.out)
    have HR1 := Lib.hid (HR.out.below HBk.out HBk.out.size)
    obtain ⟨A5, c5, hv5, _, _, hr5, _⟩ := own_reads HO5.out
    subst hv5
    have HR5 := Lib.hid hr5
    have hmo : out.length ≤ maxLen := by unfold maxLen; omega
    clear hown1 hgrow hown0 hr0 hr5 HBk HO5 HR HB
    go_wp2_with fail
    refine (Sorted_ok A1 c1 out _ HR1.out HP.out HFt.out (by omega) HC.out).mono ?_
    rintro e w6 ⟨v6, rfl, ho6, hb6⟩
    have HO6 := Lib.hid ho6
    have B6 := Lib.hid hb6
    obtain ⟨A6, c6, hv6, _, _, _, _⟩ := own_reads ho6
    subst hv6
    have HG6 : Hid (∀ g, A6 = some ⟨g, 0, none⟩ → g < w6.heap.size) := fun g hg => by
      subst hg
      exact (ho6.lt g rfl).2
    clear ho6 hb6
    go_wp2_with fail
    refine (Distinct_ok A1 c1 out _ (HR1.out.below B6.out B6.out.size) HP.out HFt.out (by omega) HC.out).mono ?_
    rintro e w8 ⟨v8, rfl, ho8, hb8⟩
    have HO8 := Lib.hid ho8
    have HO68 := Lib.hid (own_below HO6.out hb8)
    have B8 := Lib.hid (thn B6.out hb8)
    have h68 := Lib.hid hb8.size
    obtain ⟨A8, c8, hv8, _, _, _, _⟩ := own_reads ho8
    subst hv8
    clear ho8 hb8 HO6
    go_wp2_with fail
    refine (Same_any A1 A5 c1 c5 out out _ (HR1.out.below B8.out B8.out.size) (HR5.out.below B8.out B8.out.size) hmo hmo).mono ?_
    rw [sameV_self]
    rintro e w9 ⟨rfl, hb9⟩
    have HO9 := Lib.hid (own_below HO8.out hb9)
    have HO69 := Lib.hid (own_below HO68.out hb9)
    have B9 := Lib.hid (thn B8.out hb9)
    clear hb9 HO68 HO8 B8 h68
    have hSn : (srt out).length ≤ 20 := by have := HSL.out; omega
    have hDn : (dd (srt out)).length ≤ 20 := by have := HDL.out; omega
    have B66 := Lib.hid B6.out.size
    have HB6 := B6
    clear B6
    generalize srt out = S at *
    generalize dd S = D at *
    go_upto_block 2 with fail
    go_cut [10] from 55 to 64 (fun _ wx => Hid (wx.ownsRow w6.heap.size 35 3 (.slice A8 D.length c8) D.length (vcells D)) ∧ Hid (Below wk.heap.size wk wx))
    case first =>
      go_wp2_with fail
      go_loopw [10] (fun i wr => ∃ (k : Nat) (cl : List V), k ≤ S.length ∧ i = .int .i64 k ∧ Hid (wr.ownsRow wk.heap.size 35 3 (.slice A6 S.length c6) S.length (vcells cl)) ∧ Hid (wr.ownsRow w6.heap.size 35 3 (.slice A8 D.length c8) D.length (vcells D)) ∧ Hid (∀ g, A6 = some ⟨g, 0, none⟩ → g < w6.heap.size) ∧ Hid (Below wk.heap.size wk wr)) (fun i _ => S.length - (intOf i).toNat)
      case atStart => exact ⟨0, S, Nat.zero_le _, rfl, HO69.out, HO9.out, HG6.out, B9.out⟩
      case round =>
        obtain ⟨k, cl, hk, rfl, HOs, HOd, HGs, HBr⟩ := hrel
        have hk0i : (0 : Int) ≤ (k : Int) := by omega
        by_cases hlt : k < S.length
        · have hlti : (k : Int) < (S.length : Int) := by omega
          obtain ⟨g6, _, rfl, _⟩ := own_at HOs.out hlt
          have hg6 := HGs.out g6 rfl
          go_wp2_with fail
          refine (rInt_any 77 _).mono ?_
          rintro e w2 ⟨rfl, hb2⟩
          have HOs2 := Lib.hid (own_below HOs.out hb2)
          have HOd2 := Lib.hid (own_below HOd.out hb2)
          have HB2 := Lib.hid (thn HBr.out hb2)
          obtain ⟨g', x', hge, hgb, hgw, hcl, ⟨c0, c1', c2⟩, f0, f1, f2⟩ := own_at HOs2.out hlt
          injection hge with hge
          injection hge with hge
          subst hge
          clear hb2
          go_wp2_with fail
          go_roundw
          case rel => exact ⟨k + 1, cl.set k ⟨1, 77, ⟨#[]⟩⟩, by omega, by go_num, own_store HOs2.out k ⟨1, 77, ⟨#[]⟩⟩ hlt, own_far (own_far (own_far HOd2.out hg6 _ _) hg6 _ _) hg6 _ _, HGs.out, st3at HB2.out hgb _ _ _ _ _ _⟩
          case measure => simp [intOf]; omega
        · go_wp2_with fail
          go_meet
          case rel => exact ⟨HOd.out, HBr.out⟩
    case rest =>
      obtain ⟨HOd0, HB0⟩ := hcut
      clear HO69 HO9 B9
      go_upto_block 4 with fail
      go_cut [11] from 65 to 74 (fun _ wx => Hid (Below wk.heap.size wk wx))
      case first =>
        go_wp2_with fail
        go_loopw [11] (fun i wr => ∃ (k : Nat) (cl : List V), k ≤ D.length ∧ i = .int .i64 k ∧ Hid (wr.ownsRow w6.heap.size 35 3 (.slice A8 D.length c8) D.length (vcells cl)) ∧ Hid (Below wk.heap.size wk wr)) (fun i _ => D.length - (intOf i).toNat)
        case atStart => exact ⟨0, D, Nat.zero_le _, rfl, HOd0.out, HB0.out⟩
        case round =>
          obtain ⟨k, cl, hk, rfl, HOd, HBr⟩ := hrel
          have hk0i : (0 : Int) ≤ (k : Int) := by omega
          by_cases hlt : k < D.length
          · have hlti : (k : Int) < (D.length : Int) := by omega
            obtain ⟨g8, _, rfl, _⟩ := own_at HOd.out hlt
            go_wp2_with fail
            refine (rInt_any 78 _).mono ?_
            rintro e w2 ⟨rfl, hb2⟩
            have HOd2 := Lib.hid (own_below HOd.out hb2)
            have HB2 := Lib.hid (thn HBr.out hb2)
            obtain ⟨g', x', hge, hgb, hgw, hcl, ⟨c0, c1', c2⟩, f0, f1, f2⟩ := own_at HOd2.out hlt
            injection hge with hge
            injection hge with hge
            subst hge
            clear hb2
            go_wp2_with fail
            go_roundw
            case rel => exact ⟨k + 1, cl.set k ⟨1, 78, ⟨#[]⟩⟩, by omega, by go_num, own_store HOd2.out k ⟨1, 78, ⟨#[]⟩⟩ hlt, st3at HB2.out (Nat.le_trans B66.out hgb) _ _ _ _ _ _⟩
            case measure => simp [intOf]; omega
          · go_wp2_with fail
            go_meet
            case rel => exact HBr.out
      case rest =>
        have HBz : Hid (Below wk.heap.size wk _) := hcut
        go_wp2_with fail
        refine (Same_any A1 A5 c1 c5 out out _ (HR1.out.below HBz.out HBz.out.size) (HR5.out.below HBz.out HBz.out.size) hmo hmo).mono ?_
        rw [sameV_self]
        rintro e wy ⟨rfl, hby⟩
        have Wy := Lib.hid (thn (thn W1.out HBz.out) hby)
        clear hby
        go_wp2_with fail
        refine (awake_any _ (HG.out.thn Wy.out)).mono ?_
        rintro e wz ⟨rfl, hbz⟩
        go_wp2_with fail
        go_ret
        exact ⟨rfl, thn Wy.out hbz⟩
end Go.Proofs.YtmhddoikicapjaaGreatDoor
