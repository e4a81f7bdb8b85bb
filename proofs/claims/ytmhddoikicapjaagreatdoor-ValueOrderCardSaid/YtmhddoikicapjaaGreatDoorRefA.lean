/-
  CONTRACT of the reference: Sorted (by merging).
-/
import Derived.Test.YtmhddoikicapjaaGreatDoorSrt
import Derived.Test.YtmhddoikicapjaaGreatDoorReg
import Derived.Test.YtmhddoikicapjaaGreatDoorLong
namespace Go.Proofs.YtmhddoikicapjaaGreatDoor
open Go.RowKit

theorem own_lower {w : World} {b b' : Nat} {e : TypeId} {size n : Nat} {v : Value} {xs : List Value} (h : w.ownsRow b e size v n xs) (hb : b' ≤ b) : w.ownsRow b' e size v n xs := by
  refine ⟨h.1, ?_⟩
  rcases h.2 with h | ⟨g, cap, cur, h1, h2, h3⟩
  · exact .inl h
  · exact .inr ⟨g, cap, cur, h1, Nat.le_trans hb h2, h3⟩
theorem VReads.take {w : World} {B b o : Nat} {l : List V} (h : VReads w B (some ⟨b, o, none⟩) l) (k : Nat) : VReads w B (some ⟨b, o, none⟩) (l.take k) := fun h0 => by
  obtain ⟨b', o', ha, hb, hc⟩ := h (by simp at h0; omega)
  refine ⟨b', o', ha, hb, fun i v hi => hc i v ?_⟩
  rw [List.getElem?_take] at hi
  split at hi
  · exact hi
  · cases hi
theorem VReads.drop {w : World} {B b o : Nat} {l : List V} (h : VReads w B (some ⟨b, o, none⟩) l) (k : Nat) : VReads w B (some ⟨b, o + k * 3, none⟩) (l.drop k) := fun h0 => by
  obtain ⟨b', o', ha, hb, hc⟩ := h (by simp at h0; omega)
  injection ha with ha
  injection ha with h1 h2
  subst h1 h2
  refine ⟨b, o + k * 3, rfl, hb, fun i v hi => ?_⟩
  rw [List.getElem?_drop] at hi
  have := hc (k + i) v hi
  rw [show o + (k + i) * 3 = o + k * 3 + i * 3 by omega] at this
  exact this
theorem VReads.drew {w : World} {B : Nat} {A : Option Addr} {l : List V} (h : VReads w B A l) : VReads w.drew B A l := h
theorem VReads.drewS {w : World} {A : Option Addr} {l : List V} (h : VReads w w.heap.size A l) : VReads w.drew w.drew.heap.size A l := h.drew
theorem VFit.take {l : List V} (h : VFit l) (k : Nat) : VFit (l.take k) := fun v hv => h v (List.mem_of_mem_take hv)
theorem VFit.drop {l : List V} (h : VFit l) (k : Nat) : VFit (l.drop k) := fun v hv => h v (List.mem_of_mem_drop hv)
theorem VFit.srt {l : List V} (h : VFit l) : VFit (srt l) := fun v hv => h v (srt_mem hv)
theorem srt_halves (l : List V) (h : Nat) : List.merge (srt (l.take h)) (srt (l.drop h)) leV = srt l := by
  rw [srt_merge, List.take_append_drop]
theorem merge_left {L R : List V} {p : Nat} (hp : p < L.length) (h : R = [] ∨ ∃ y r, R = y :: r ∧ leV L[p] y = true) : List.merge (L.drop p) R leV = L[p] :: List.merge (L.drop (p + 1)) R leV := by
  rw [List.drop_eq_getElem_cons hp]
  rcases h with rfl | ⟨y, r, rfl, hl⟩
  · simp
  · rw [List.cons_merge_cons, if_pos hl]
theorem merge_right {L R : List V} {q : Nat} (hq : q < R.length) (h : L = [] ∨ ∃ x r, L = x :: r ∧ leV x R[q] = false) : List.merge L (R.drop q) leV = R[q] :: List.merge L (R.drop (q + 1)) leV := by
  rw [List.drop_eq_getElem_cons hq]
  rcases h with rfl | ⟨x, r, rfl, hl⟩
  · simp
  · rw [List.cons_merge_cons, if_neg (by rw [hl]; decide)]
theorem srt_append_len (l : List V) (h : Nat) : (srt (l.take h)).length + (srt (l.drop h)).length = l.length := by
  rw [srt_len, srt_len, List.length_take, List.length_drop]; omega
set_option maxHeartbeats 2000000 in
set_option maxRecDepth 100000 in
theorem rSorted_any (m : Nat) : ∀ (A : Option Addr) (c : Nat) (l : List V) (w : World), l.length < m → VReads w w.heap.size A l → VFit l → l.length ≤ c → l.length ≤ 1000000 →
    Calls Tryz.prog 13 #[.slice A l.length c] w fun e w' => ∃ v, e = .returned v ∧ w'.ownsRow w.heap.size 35 3 v (srt l).length (vcells (srt l)) ∧ Below w.heap.size w w' := by
  obtain ⟨i0, hi, hz0, hz1, hz2⟩ := info_parts infoV
  induction m with
  | zero => intro A c l w h; omega
  | succ m ih =>
    intro A c l w hm hr hf hc hn
    have HN := Lib.hid hn
    clear hn
    by_cases h2 : l.length < 2
    · have hlt : (l.length : Int) < 2 := by omega
      have HE := Lib.hid (srt_short h2)
      clear h2
      go_enter Tryz.func13, Tryz.ntmps13
      have hown0 := own_empty w 35 3
      have hr0 := hr.below (al (Below.refl w.heap.size w) (.cells #[] 35)) (by simp <;> omega : _ ≤ w.heap.size + 1)
      go_wp2_with (at_builtin; refine wpList_append_any _ rfl (.tmp 11) (.tmp 12) 22 rfl w.heap.size 35 i0 (.agg #[.int .i64 0, .int .i64 0, .string ⟨#[]⟩]) 3 32 Tryz.underlying22 hi hz0 hz1 hz2 rfl (by decide) _ 0 [] rfl hown0 (w.heap.size + 1) A l.length c (vcells l) rfl ?c0 ?c1 ?c2 ?c3 ?c4 ?_)
      case c0 => exact hr0.reads
      case c1 => exact vcells_one _
      case c2 => have := HN.out; unfold maxLen; omega
      case c3 => have := HN.out; omega
      case c4 => simp <;> omega
      intro v' w1 hown1 hgrow _
      have HO1 : Hid (w1.ownsRow w.heap.size 35 3 v' l.length (vcells l)) := hown1
      have HB1 : Hid (Below w.heap.size w w1) := (al (Below.refl _ _) _).grown hgrow (by simp <;> omega) (own_base hown0)
      clear hown1 hgrow hown0 hr0
      go_wp2_with fail
      go_ret
      exact ⟨_, rfl, by rw [HE.out]; exact HO1.out, HB1.out⟩
    · have hlt : ¬ (l.length : Int) < 2 := by omega
      obtain ⟨b, o, rfl, hblk, hcc⟩ := hr (by omega)
      clear hcc
      obtain ⟨h, hd⟩ : ∃ h, h = l.length / 2 := ⟨_, rfl⟩
      have hq : (l.length : Int) / 2 = (h : Int) := by omega
      have hh : h ≤ l.length := by omega
      have hhi : (h : Int) ≤ (l.length : Int) := by omega
      have hci : (l.length : Int) ≤ (c : Int) := by omega
      have hhc : (h : Int) ≤ (c : Int) := by omega
      have hhn : h ≤ c := by omega
      have h0i : (0 : Int) ≤ (h : Int) := by omega
      have hw : IntKind.i64.wrap (h : Int) = (h : Int) := by
        rw [IntKind.wrap_i64]
        have := HN.out
        omega
      have hne : ¬ c = h := by omega
      have hl1 : (l.take h).length = h := by rw [List.length_take]; omega
      have hl2 : (l.drop h).length = l.length - h := List.length_drop
      have h1 := fun w' (hv : VReads w' w'.heap.size (some ⟨b, o, none⟩) (l.take h)) => ih (some ⟨b, o, none⟩) c (l.take h) w' (by omega) hv (hf.take _) (by omega) (by have := HN.out; omega)
      have h2' := fun w' (hv : VReads w' w'.heap.size (some ⟨b, o + h * 3, none⟩) (l.drop h)) => ih (some ⟨b, o + h * 3, none⟩) (c - h) (l.drop h) w' (by omega) hv (hf.drop _) (by omega) (by have := HN.out; omega)
      rw [hl1] at h1
      rw [hl2] at h2'
      have H1 := Lib.hid h1
      have H2 := Lib.hid h2'
      have R1 := Lib.hid (hr.take h)
      have R2 := Lib.hid (hr.drop h)
      have HF1 := Lib.hid ((hf.take h).srt)
      have HF2 := Lib.hid ((hf.drop h).srt)
      have HL := Lib.hid (srt_append_len l h)
      have HM := Lib.hid (srt_halves l h)
      clear h1 h2' ih hr hf hl1 hl2 h2 hd
      go_enter Tryz.func13, Tryz.ntmps13
      go_upto_region 3 with fail
      go_cut [3, 4] from 14 to 25 (fun x y wx => ∃ (A1 : Option Addr) (c1 : Nat) (A2 : Option Addr) (c2 : Nat), x = .slice A1 (srt (l.take h)).length c1 ∧ y = .slice A2 (srt (l.drop h)).length c2 ∧ Hid (VReads wx wx.heap.size A1 (srt (l.take h))) ∧ Hid (VReads wx wx.heap.size A2 (srt (l.drop h))) ∧ Hid (Below w.heap.size w wx))
      case first =>
        go_region_with (first
            | (go_at_call_of 13 (Value.slice (some ⟨b, o, none⟩) h c); refine (H1.out _ ?_).mono ?_; (first | exact R1.out.drewS | exact R1.out.below B4 B4.size); rintro e w3 ⟨v3, rfl, ho3, hb3⟩; first | (have B3 : Below w.heap.size w w3 := ⟨hb3.os, hb3.tape, hb3.output, hb3.size, hb3.block⟩) | (have B3 : Below w4.heap.size w4 w3 := ⟨hb3.os, hb3.tape, hb3.output, hb3.size, hb3.block⟩))
            | (go_at_call_of 13 (Value.slice (some ⟨b, o + h * 3, none⟩) (l.length - h) (c - h)); refine (H2.out _ ?_).mono ?_; (first | exact R2.out.drewS | exact R2.out.below B3 B3.size); rintro e w4 ⟨v4, rfl, ho4, hb4⟩; first | (have B4 : Below w.heap.size w w4 := ⟨hb4.os, hb4.tape, hb4.output, hb4.size, hb4.block⟩) | (have B4 : Below w3.heap.size w3 w4 := ⟨hb4.os, hb4.tape, hb4.output, hb4.size, hb4.block⟩)))
        all_goals go_wp2_with fail
        all_goals go_meet
        all_goals
          obtain ⟨A1, c1, hv1, _, _, hr1, _⟩ := own_reads (own_below ho3 B4)
          obtain ⟨A2, c2, hv2, _, _, hr2, _⟩ := own_reads ho4
          exact ⟨A1, c1, A2, c2, hv1, hv2, hr1, hr2, thn B3 B4⟩
      case rest =>
        obtain ⟨A1, c1, A2, c2, rfl, rfl, HR1, HR2, HB0⟩ := hcut
        clear R1 R2 H1 H2 hq hhi hci hhc hhn h0i hw hne hlt hblk
        generalize srt (l.take h) = L at *
        generalize srt (l.drop h) = R at *
        have hLl : L.length ≤ 1000000 := by have := HL.out; have := HN.out; omega
        have hRl : R.length ≤ 1000000 := by have := HL.out; have := HN.out; omega
        go_wp2_with fail
        go_loopw [5, 6, 7] (fun v i k wr => ∃ (p q : Nat) (os : List V), p ≤ L.length ∧ q ≤ R.length ∧ i = .int .i64 p ∧ k = .int .i64 q ∧ Hid (os.length = p + q) ∧ Hid (wr.ownsRow wc.heap.size 35 3 v os.length (vcells os)) ∧ Hid (os ++ List.merge (L.drop p) (R.drop q) leV = srt l) ∧ Hid (Below wc.heap.size wc wr)) (fun _ i k _ => (L.length - (intOf i).toNat) + (R.length - (intOf k).toNat))
        case atStart => exact ⟨0, 0, [], Nat.zero_le _, Nat.zero_le _, rfl, rfl, rfl, ⟨rfl, .inl ⟨rfl, rfl⟩⟩, HM.out, Below.refl _ _⟩
        case round =>
          obtain ⟨p, q, os, hpl, hql, rfl, rfl, HS, HO, HG, HB⟩ := hrel
          have hp0 : (0 : Int) ≤ (p : Int) := by omega
          have hq0 : (0 : Int) ≤ (q : Int) := by omega
          by_cases hp : p < L.length
          · by_cases hq : q < R.length
            · have hf1 := HF1.out L[p] (List.getElem_mem hp)
              have hf2 := HF2.out R[q] (List.getElem_mem hq)
              have eqq : ((q : Int) == (R.length : Int)) = false := beq_eq_false_iff_ne.2 (by omega)
              obtain ⟨b1, o1, rfl, hk1, l0, l1, l2⟩ := (HR1.out.below HB.out HB.out.size).at_ hp
              have la0 : ∀ x : Aft wr, x.w.cell? ⟨b1, o1 + p * 3, none⟩ = some (.int .i64 L[p].k) := fun x => (x.h.cell (p := ⟨b1, _, none⟩) hk1).trans l0
              have la1 : ∀ x : Aft wr, x.w.cell? ⟨b1, o1 + p * 3 + 1, none⟩ = some (.int .i64 L[p].n) := fun x => (x.h.cell (p := ⟨b1, _, none⟩) hk1).trans l1
              have la2 : ∀ x : Aft wr, x.w.cell? ⟨b1, o1 + p * 3 + 2, none⟩ = some (.string L[p].s) := fun x => (x.h.cell (p := ⟨b1, _, none⟩) hk1).trans l2
              clear l0 l1 l2
              have hpi : (p : Int) < (L.length : Int) := by omega
              obtain ⟨b2, o2, rfl, hk2, r0, r1, r2⟩ := (HR2.out.below HB.out HB.out.size).at_ hq
              have ra0 : ∀ x : Aft wr, x.w.cell? ⟨b2, o2 + q * 3, none⟩ = some (.int .i64 R[q].k) := fun x => (x.h.cell (p := ⟨b2, _, none⟩) hk2).trans r0
              have ra1 : ∀ x : Aft wr, x.w.cell? ⟨b2, o2 + q * 3 + 1, none⟩ = some (.int .i64 R[q].n) := fun x => (x.h.cell (p := ⟨b2, _, none⟩) hk2).trans r1
              have ra2 : ∀ x : Aft wr, x.w.cell? ⟨b2, o2 + q * 3 + 2, none⟩ = some (.string R[q].s) := fun x => (x.h.cell (p := ⟨b2, _, none⟩) hk2).trans r2
              clear r0 r1 r2
              have hqi : (q : Int) < (R.length : Int) := by omega
              by_cases hle : leV L[p] R[q] = true
              · have hc : cmpV L[p].k L[p].n L[p].s R[q].k R[q].n R[q].s ≤ 0 := leV_iff.1 hle
                have HG2 : Hid ((os ++ [L[p]]) ++ List.merge (L.drop (p + 1)) (R.drop q) leV = srt l) := by
                  show _ = _
                  rw [List.append_assoc, List.singleton_append, ← merge_left hp (.inr ⟨R[q], R.drop (q + 1), List.drop_eq_getElem_cons hq, hle⟩)]
                  exact HG.out
                clear hle
                go_wp2_with fail
                refine region_aft (by kernel_rfl) (by kernel_rfl) ?_
                repeat (go_big_quiet_step ((go_at_call 31; exact aft_call (rCompare_any _ _ _ _ _ _ _ hf1 hf2))))
                refine wpQuiet_nil ?_
                intro x9
                go_wp2_with (at_builtin; refine wpList_append_any _ rfl (.tmp 58) (.tmp 63) 22 rfl wc.heap.size 35 i0 (.agg #[.int .i64 0, .int .i64 0, .string ⟨#[]⟩]) 3 32 Tryz.underlying22 hi hz0 hz1 hz2 rfl (by decide) _ _ _ rfl ((own_below HO.out x9.h).alloc _) (x9.w.heap.size + 1) _ 1 1 (vcells [L[p]]) rfl ?c0 ?c1 ?c2 ?c3 ?c4 ?_)
                case c0 => exact (VReads.one (Blk.new' (g := x9.w.heap.size) rfl) (Nat.lt_succ_self _)).reads
                case c1 => exact vcells_one _
                case c2 => have := HL.out; have := HN.out; have := HS.out; unfold maxLen; omega
                case c3 => have := HL.out; have := HN.out; have := HS.out; omega
                case c4 => have := HB.out.size; have := x9.h.size; simp <;> omega
                intro v' w2 hown2 hgrow2 _
                have HO2 : Hid (w2.ownsRow wc.heap.size 35 3 v' (os ++ [L[p]]).length (vcells (os ++ [L[p]]))) := by
                  rw [vcells_append, List.length_append]
                  exact hown2
                have HB2 : Hid (Below wc.heap.size wc w2) := (al (thn HB.out x9.h) _).grown hgrow2 (by have := HB.out.size; have := x9.h.size; simp <;> omega) (own_base HO.out)
                have HS2 : Hid ((os ++ [L[p]]).length = p + 1 + q) := by
                  show _ = _
                  rw [List.length_append, HS.out, List.length_singleton]; omega
                clear hown2 hgrow2
                go_wp2_with fail
                go_roundw
                case rel => exact ⟨p + 1, q, os ++ [L[p]], by omega, by omega, by go_num, by go_num, HS2, HO2, HG2, HB2⟩
                case measure => simp [intOf]; omega
              · have hle0 : leV L[p] R[q] = false := by simpa using hle
                have hc : ¬ cmpV L[p].k L[p].n L[p].s R[q].k R[q].n R[q].s ≤ 0 := fun h => hle (leV_iff.2 h)
                have HG2 : Hid ((os ++ [R[q]]) ++ List.merge (L.drop p) (R.drop (q + 1)) leV = srt l) := by
                  show _ = _
                  rw [List.append_assoc, List.singleton_append, ← merge_right hq (.inr ⟨L[p], L.drop (p + 1), List.drop_eq_getElem_cons hp, hle0⟩)]
                  exact HG.out
                clear hle hle0
                go_wp2_with fail
                refine region_aft (by kernel_rfl) (by kernel_rfl) ?_
                repeat (go_big_quiet_step ((go_at_call 31; exact aft_call (rCompare_any _ _ _ _ _ _ _ hf1 hf2))))
                refine wpQuiet_nil ?_
                intro x9
                go_wp2_with (at_builtin; refine wpList_append_any _ rfl (.tmp 67) (.tmp 72) 22 rfl wc.heap.size 35 i0 (.agg #[.int .i64 0, .int .i64 0, .string ⟨#[]⟩]) 3 32 Tryz.underlying22 hi hz0 hz1 hz2 rfl (by decide) _ _ _ rfl ((own_below HO.out x9.h).alloc _) (x9.w.heap.size + 1) _ 1 1 (vcells [R[q]]) rfl ?c0 ?c1 ?c2 ?c3 ?c4 ?_)
                case c0 => exact (VReads.one (Blk.new' (g := x9.w.heap.size) rfl) (Nat.lt_succ_self _)).reads
                case c1 => exact vcells_one _
                case c2 => have := HL.out; have := HN.out; have := HS.out; unfold maxLen; omega
                case c3 => have := HL.out; have := HN.out; have := HS.out; omega
                case c4 => have := HB.out.size; have := x9.h.size; simp <;> omega
                intro v' w2 hown2 hgrow2 _
                have HO2 : Hid (w2.ownsRow wc.heap.size 35 3 v' (os ++ [R[q]]).length (vcells (os ++ [R[q]]))) := by
                  rw [vcells_append, List.length_append]
                  exact hown2
                have HB2 : Hid (Below wc.heap.size wc w2) := (al (thn HB.out x9.h) _).grown hgrow2 (by have := HB.out.size; have := x9.h.size; simp <;> omega) (own_base HO.out)
                have HS2 : Hid ((os ++ [R[q]]).length = p + (q + 1)) := by
                  show _ = _
                  rw [List.length_append, HS.out, List.length_singleton]; omega
                clear hown2 hgrow2
                go_wp2_with fail
                go_roundw
                case rel => exact ⟨p, q + 1, os ++ [R[q]], by omega, by omega, by go_num, by go_num, HS2, HO2, HG2, HB2⟩
                case measure => simp [intOf]; omega
            · have hqe : q = R.length := by omega
              have eqq : ((q : Int) == (R.length : Int)) = true := by simp [hqe]
              obtain ⟨b1, o1, rfl, hk1, l0, l1, l2⟩ := (HR1.out.below HB.out HB.out.size).at_ hp
              have la0 : ∀ x : Aft wr, x.w.cell? ⟨b1, o1 + p * 3, none⟩ = some (.int .i64 L[p].k) := fun x => (x.h.cell (p := ⟨b1, _, none⟩) hk1).trans l0
              have la1 : ∀ x : Aft wr, x.w.cell? ⟨b1, o1 + p * 3 + 1, none⟩ = some (.int .i64 L[p].n) := fun x => (x.h.cell (p := ⟨b1, _, none⟩) hk1).trans l1
              have la2 : ∀ x : Aft wr, x.w.cell? ⟨b1, o1 + p * 3 + 2, none⟩ = some (.string L[p].s) := fun x => (x.h.cell (p := ⟨b1, _, none⟩) hk1).trans l2
              clear l0 l1 l2
              have hpi : (p : Int) < (L.length : Int) := by omega
              have HG2 : Hid ((os ++ [L[p]]) ++ List.merge (L.drop (p + 1)) (R.drop q) leV = srt l) := by
                show _ = _
                rw [List.append_assoc, List.singleton_append, ← merge_left hp (.inl (List.drop_eq_nil_of_le (by omega)))]
                exact HG.out
              clear hqe
              go_wp2_with fail
              refine region_aft (by kernel_rfl) (by kernel_rfl) ?_
              repeat (go_big_quiet_step (fail))
              refine wpQuiet_nil ?_
              intro x9
              go_wp2_with (at_builtin; refine wpList_append_any _ rfl (.tmp 58) (.tmp 63) 22 rfl wc.heap.size 35 i0 (.agg #[.int .i64 0, .int .i64 0, .string ⟨#[]⟩]) 3 32 Tryz.underlying22 hi hz0 hz1 hz2 rfl (by decide) _ _ _ rfl ((own_below HO.out x9.h).alloc _) (x9.w.heap.size + 1) _ 1 1 (vcells [L[p]]) rfl ?c0 ?c1 ?c2 ?c3 ?c4 ?_)
              case c0 => exact (VReads.one (Blk.new' (g := x9.w.heap.size) rfl) (Nat.lt_succ_self _)).reads
              case c1 => exact vcells_one _
              case c2 => have := HL.out; have := HN.out; have := HS.out; unfold maxLen; omega
              case c3 => have := HL.out; have := HN.out; have := HS.out; omega
              case c4 => have := HB.out.size; have := x9.h.size; simp <;> omega
              intro v' w2 hown2 hgrow2 _
              have HO2 : Hid (w2.ownsRow wc.heap.size 35 3 v' (os ++ [L[p]]).length (vcells (os ++ [L[p]]))) := by
                rw [vcells_append, List.length_append]
                exact hown2
              have HB2 : Hid (Below wc.heap.size wc w2) := (al (thn HB.out x9.h) _).grown hgrow2 (by have := HB.out.size; have := x9.h.size; simp <;> omega) (own_base HO.out)
              have HS2 : Hid ((os ++ [L[p]]).length = p + 1 + q) := by
                show _ = _
                rw [List.length_append, HS.out, List.length_singleton]; omega
              clear hown2 hgrow2
              go_wp2_with fail
              go_roundw
              case rel => exact ⟨p + 1, q, os ++ [L[p]], by omega, by omega, by go_num, by go_num, HS2, HO2, HG2, HB2⟩
              case measure => simp [intOf]; omega
          · have hpi : ¬ (p : Int) < (L.length : Int) := by omega
            by_cases hq : q < R.length
            · have eqq : ((q : Int) == (R.length : Int)) = false := beq_eq_false_iff_ne.2 (by omega)
              obtain ⟨b2, o2, rfl, hk2, r0, r1, r2⟩ := (HR2.out.below HB.out HB.out.size).at_ hq
              have ra0 : ∀ x : Aft wr, x.w.cell? ⟨b2, o2 + q * 3, none⟩ = some (.int .i64 R[q].k) := fun x => (x.h.cell (p := ⟨b2, _, none⟩) hk2).trans r0
              have ra1 : ∀ x : Aft wr, x.w.cell? ⟨b2, o2 + q * 3 + 1, none⟩ = some (.int .i64 R[q].n) := fun x => (x.h.cell (p := ⟨b2, _, none⟩) hk2).trans r1
              have ra2 : ∀ x : Aft wr, x.w.cell? ⟨b2, o2 + q * 3 + 2, none⟩ = some (.string R[q].s) := fun x => (x.h.cell (p := ⟨b2, _, none⟩) hk2).trans r2
              clear r0 r1 r2
              have hqi : (q : Int) < (R.length : Int) := by omega
              have HG2 : Hid ((os ++ [R[q]]) ++ List.merge (L.drop p) (R.drop (q + 1)) leV = srt l) := by
                show _ = _
                rw [List.append_assoc, List.singleton_append, ← merge_right hq (.inl (List.drop_eq_nil_of_le (by omega)))]
                exact HG.out
              go_wp2_with fail
              refine region_aft (by kernel_rfl) (by kernel_rfl) ?_
              repeat (go_big_quiet_step (fail))
              refine wpQuiet_nil ?_
              intro x9
              go_wp2_with (at_builtin; refine wpList_append_any _ rfl (.tmp 67) (.tmp 72) 22 rfl wc.heap.size 35 i0 (.agg #[.int .i64 0, .int .i64 0, .string ⟨#[]⟩]) 3 32 Tryz.underlying22 hi hz0 hz1 hz2 rfl (by decide) _ _ _ rfl ((own_below HO.out x9.h).alloc _) (x9.w.heap.size + 1) _ 1 1 (vcells [R[q]]) rfl ?c0 ?c1 ?c2 ?c3 ?c4 ?_)
              case c0 => exact (VReads.one (Blk.new' (g := x9.w.heap.size) rfl) (Nat.lt_succ_self _)).reads
              case c1 => exact vcells_one _
              case c2 => have := HL.out; have := HN.out; have := HS.out; unfold maxLen; omega
              case c3 => have := HL.out; have := HN.out; have := HS.out; omega
              case c4 => have := HB.out.size; have := x9.h.size; simp <;> omega
              intro v' w2 hown2 hgrow2 _
              have HO2 : Hid (w2.ownsRow wc.heap.size 35 3 v' (os ++ [R[q]]).length (vcells (os ++ [R[q]]))) := by
                rw [vcells_append, List.length_append]
                exact hown2
              have HB2 : Hid (Below wc.heap.size wc w2) := (al (thn HB.out x9.h) _).grown hgrow2 (by have := HB.out.size; have := x9.h.size; simp <;> omega) (own_base HO.out)
              have HS2 : Hid ((os ++ [R[q]]).length = p + (q + 1)) := by
                show _ = _
                rw [List.length_append, HS.out, List.length_singleton]; omega
              clear hown2 hgrow2
              go_wp2_with fail
              go_roundw
              case rel => exact ⟨p, q + 1, os ++ [R[q]], by omega, by omega, by go_num, by go_num, HS2, HO2, HG2, HB2⟩
              case measure => simp [intOf]; omega
            · have hqi : ¬ (q : Int) < (R.length : Int) := by omega
              have HE : Hid (os = srt l) := by
                have hg := HG.out
                rw [List.drop_eq_nil_of_le (by omega), List.drop_eq_nil_of_le (by omega)] at hg
                have hg2 : os = srt l := by simpa using hg
                exact hg2
              go_wp2_with fail
              go_ret
              exact ⟨_, rfl, by rw [← HE.out]; exact own_lower HO.out HB0.out.size, thn HB0.out HB.out⟩
end Go.Proofs.YtmhddoikicapjaaGreatDoor
