/-
  CONTRACTS of the law's CutAll, bare.
-/
import Derived.Test.YtdiehgfldndgbaaGreatDoorGA10
import Derived.Test.YtdiehgfldndgbaaGreatDoorGA19
import Derived.Test.YtdiehgfldndgbaaGreatDoorGA21
import Derived.Deep.DeepCutAuto
namespace Go.Proofs.YtdiehgfldndgbaaGreatDoor
open Go.RowKit Go.Deep

/-- at most so many, of at most 420 nodes together -/
def cutsE (most : Nat) (l : List E) : List E := (cutEL 420 (l.take most)).1
theorem cuts_nodes (most : Nat) (l : List E) : nodesL (cutsE most l) ≤ 420 := by
  have := cutEL_count 420 (l.take most)
  unfold cutsE
  omega
theorem cuts_len (most : Nat) (l : List E) : (cutsE most l).length ≤ most := by
  have h := cutEL_len 420 (l.take most)
  rw [List.length_take] at h
  unfold cutsE
  omega
theorem cuts_in {most : Nat} {l : List E} (h : LIn l) : ∀ x ∈ cutsE most l, EIn x := fun x hx => LIn.mem (cutEL_in 420 _ (LIn.of fun y hy => LIn.mem h y (List.mem_of_mem_take hy))) x hx
theorem cuts_stop {most j : Nat} {l : List E} (hj : j ≤ most) (h : (cutEL 420 (l.take j)).2 = 0) : cutsE most l = (cutEL 420 (l.take j)).1 := by
  have e : l.take most = l.take j ++ (l.take most).drop j := by
    have h1 : (l.take most).take j = l.take j := by rw [List.take_take, Nat.min_eq_left hj]
    rw [← h1, List.take_append_drop]
  unfold cutsE
  rw [e, cutEL_stop _ _ _ h]
/-- a row that was built, with its capacity -/
theorem CArgs.readsC {base : Nat} {w : World} {v : Value} {hs : List HE} (k : CArgs base w v hs) : ∃ (A : Option Addr) (c : Nat), v = .slice A hs.length c ∧ hs.length ≤ c ∧ c ≤ maxLen ∧ LOk w (NwB base w.heap.size) A (hs.map HE.e) := by
  obtain ⟨A, c, e, hL⟩ := k.reads
  refine ⟨A, c, e, ?_, ?_, hL⟩
  · rcases k.1.2 with ⟨rfl, h0⟩ | ⟨g, cap, cur, rfl, hb, hh, hnc, hcm, hcs, htk⟩
    · omega
    · injection e with e1 e2 e3; omega
  · rcases k.1.2 with ⟨rfl, h0⟩ | ⟨g, cap, cur, rfl, hb, hh, hnc, hcm, hcs, htk⟩
    · injection e with e1 e2 e3; rw [← e3]; exact Nat.zero_le _
    · injection e with e1 e2 e3; omega
set_option maxHeartbeats 4000000 in
set_option maxRecDepth 100000 in
theorem CutAll_any (most : Nat) (l : List E) (A : Option Addr) (c : Nat) (w : World) (hm : most ≤ 100) (hI : LIn l) (hA : LOk w (Lo w.heap.size) A l) :
    Calls Tryz.prog 13 #[.slice A l.length c, .int .i64 most] w fun x w' => ∃ (A' : Option Addr) (c' : Nat), x = .returned (.slice A' (cutsE most l).length c') ∧ (cutsE most l).length ≤ c' ∧ c' ≤ maxLen ∧ LOk w' (NwB w.heap.size w'.heap.size) A' (cutsE most l) ∧ Below w.heap.size w w' := by
  have HA := Lib.hid (And.intro hI hA)
  clear hI hA
  go_enter Tryz.func13, Tryz.ntmps13
  go_wp2_with fail
  go_loopw [5, 6, 7] (fun v lv iv wr => ∃ (j : Nat) (hs : List HE), j ≤ l.length ∧ j ≤ most ∧ iv = .int .i64 j ∧ lv = .int .i64 ((cutEL 420 (l.take j)).2 : Nat) ∧ Hid (CArgs w.heap.size wr v hs ∧ Below w.heap.size w wr) ∧ Hid (hs.map HE.e = (cutEL 420 (l.take j)).1 ∧ hs.length = j)) (fun _ _ iv _ => l.length - (intOf iv).toNat)
  case atStart => exact ⟨0, [], Nat.zero_le _, Nat.zero_le _, rfl, by simp [cutEL], ⟨CArgs.nil _ _, Below.refl _ _⟩, ⟨by simp [cutEL], rfl⟩⟩
  case round =>
    obtain ⟨j, hs, hj, hjm, rfl, rfl, HW, HH⟩ := hrel
    generalize u5 = v at *
    have hqle := cutEL_left 420 (l.take j)
    have hs0 := HW.out.2.size
    by_cases hgo : j < l.length ∧ j < most ∧ 0 < (cutEL 420 (l.take j)).2
    · have hlt := hgo.1
      have hmo := hgo.2.1
      have hq := hgo.2.2
      have hlti : (j : Int) < (l.length : Int) := by omega
      have hmi : (j : Int) < (most : Int) := by omega
      have hj0 : (0 : Int) ≤ (j : Int) := by omega
      have HT := Lib.hid (List.take_succ_eq_append_getElem hlt)
      have HS := Lib.hid (cutEL_snoc (l.take j) 420 l[j] hq)
      obtain ⟨q, hqe⟩ : ∃ q, q = (cutEL 420 (l.take j)).2 := ⟨_, rfl⟩
      rw [← hqe] at HS hq hqle ⊢
      have HQ := Lib.hid hqe
      clear hqe hgo
      have hqi : (0 : Int) < (q : Int) := by omega
      obtain ⟨b, o, A', c', R', d', rfl, hZ, hL, hR⟩ := (HA.out.2.below HW.out.2 HW.out.2.size).eat hlt
      have HK := Lib.hid (CutE_any q l[j] A' R' c' d' wr hq (by omega) (LIn.mem HA.out.1 _ (List.getElem_mem hlt)) hL hR)
      have x0 := hZ.c0
      have x1 := hZ.c1
      have x2 := hZ.c2
      have x3 := hZ.c3
      have x4 := hZ.c4
      have x5 := hZ.c5
      have x6 := hZ.c6
      have x7 := hZ.c7
      have x8 := hZ.c8
      clear hZ hL hR
      unfold E.val at HK
      generalize l[j] = ej at *
      go_wp2_with fail
      refine HK.out.mono ?_
      rintro x w2 ⟨h, he, rfl, hb2, hok⟩
      have HH2 : Hid (Below wr.heap.size wr w2 ∧ h.ok w2 (fun b => wr.heap.size ≤ b ∧ b < w2.heap.size) ∧ h.e = (cutE q ej).1) := Lib.hid ⟨hb2, hok, he⟩
      have hb3 : ∀ o1 o2, Below wr.heap.size wr ((w2.alloc o1).alloc o2) := fun o1 o2 => al (al hb2 _) _
      have HB3 := Lib.hid hb3
      have hs2 := hb2.size
      clear hb2 hok he hb3 x0 x1 x2 x3 x4 x5 x6 x7 x8 HK
      unfold HE.val E.val
      obtain ⟨i0, hi, hz0, hz1, hz2⟩ := info_parts infoE
      have hhl : hs.length ≤ 100 := by have := HH.out.2; omega
      go_wp2_with (at_builtin; refine wpList_append_any _ rfl (.tmp 34) (.tmp 36) 22 rfl w.heap.size 30 i0 (.agg #[.int .i64 0, .int .i64 0, .int .i64 0, .int .i64 0, .int .i64 0, .int .i64 0, .string ⟨#[]⟩, .slice none 0 0, .slice none 0 0]) 9 112 Tryz.underlying22 hi hz0 hz1 hz2 rfl (by decide) v hs.length (hcells hs) rfl (own_below HW.out.1.1 (HB3.out _ _)) (w2.heap.size + 1 + 1) (some ⟨w2.heap.size + 1, 0, none⟩) 1 1 (hcells [h]) rfl ?c0 (hcells_one _) ?c1 ?c2 ?c3 ?_)
      case c0 => exact Reads.he (Blk.new' (g := w2.heap.size + 1) (by simp)) (Nat.lt_succ_self _)
      case c1 => unfold maxLen; omega
      case c2 => omega
      case c3 => simp; omega
      intro v' w4 hown4 hgrow hvb
      have HN : Hid (CArgs w.heap.size w4 v' (hs ++ [h]) ∧ Below w.heap.size w w4) := Lib.hid ⟨HW.out.1.snocW (HB3.out _ _) hs0 (HH2.out.2.1.kept (fun b hb => (Below.heap_alloc _ _ b (by have := hb.2; simp; omega)).trans (Below.heap_alloc w2 _ b hb.2)) fun b hb => ⟨hb.1, by have := hb.2; simp; omega⟩) hown4 hgrow (by simpa using hvb), (thn HW.out.2 (HB3.out _ _)).grown hgrow (by simp; omega) (fun g hg => (HW.out.1.1.lt g hg).1)⟩
      have HL : Hid ((hs ++ [h]).map HE.e = (cutEL 420 (l.take (j + 1))).1 ∧ (hs ++ [h]).length = j + 1) := Lib.hid ⟨by rw [HT.out, HS.out, List.map_append, HH.out.1, List.map_singleton, HH2.out.2.2], by rw [List.length_append, HH.out.2]; rfl⟩
      have HV : Hid ((cutE q ej).2 = (cutEL 420 (l.take (j + 1))).2) := Lib.hid (by rw [HT.out, HS.out])
      obtain ⟨A2, d2, rfl⟩ := own_slc hown4
      clear hown4 hgrow hvb
      go_wp2_with fail
      first | exact ⟨⟨j + 1, hs ++ [h], by omega, by omega, by go_num, by rw [HV.out], HN, HL⟩, by simp [intOf]; omega⟩ | (refine ⟨?_, ?measure⟩; (repeat apply Exists.intro); refine ⟨?rel, rfl⟩; case rel => exact ⟨j + 1, hs ++ [h], by omega, by omega, by go_num, by rw [HV.out], HN, HL⟩; case measure => simp [intOf]; omega)
    · have HE : Hid (cutsE most l = hs.map HE.e) := Lib.hid (by
        rw [HH.out.1]
        by_cases h1 : j < l.length
        · by_cases h2 : j < most
          · exact cuts_stop hjm (by omega)
          · rw [show j = most by omega]; rfl
        · unfold cutsE
          rw [List.take_of_length_le (by omega), List.take_of_length_le (by omega)])
      have HEl : Hid ((cutsE most l).length = hs.length) := Lib.hid (by rw [HE.out, List.length_map])
      obtain ⟨A2, c2, rfl, hc1, hc2, hL⟩ := HW.out.1.readsC
      have HR : Hid ((cutsE most l).length ≤ c2 ∧ c2 ≤ maxLen ∧ LOk wr (NwB w.heap.size wr.heap.size) A2 (cutsE most l)) := Lib.hid ⟨by rw [HEl.out]; exact hc1, hc2, by rw [HE.out]; exact hL⟩
      clear hL hc1 hc2
      obtain ⟨q, hqe⟩ : ∃ q, q = (cutEL 420 (l.take j)).2 := ⟨_, rfl⟩
      rw [← hqe] at hgo hqle ⊢
      clear hqe
      by_cases h1 : j < l.length
      · have h1i : (j : Int) < (l.length : Int) := by omega
        by_cases h2 : j < most
        · have h2i : (j : Int) < (most : Int) := by omega
          have h3 : q = 0 := by omega
          subst h3
          go_wp2_with fail
          go_ret
          exact ⟨A2, c2, by rw [HEl.out]; rfl, HR.out.1, HR.out.2.1, HR.out.2.2, HW.out.2⟩
        · have h2f : decide ((j : Int) < (most : Int)) = false := decide_eq_false (by omega)
          have h2n : decide (j < most) = false := decide_eq_false (by omega)
          go_wp2_with fail
          go_ret
          exact ⟨A2, c2, by rw [HEl.out]; rfl, HR.out.1, HR.out.2.1, HR.out.2.2, HW.out.2⟩
      · have h1f : decide ((j : Int) < (l.length : Int)) = false := decide_eq_false (by omega)
        have h1n : decide (j < l.length) = false := decide_eq_false (by omega)
        go_wp2_with fail
        go_ret
        exact ⟨A2, c2, by rw [HEl.out]; rfl, HR.out.1, HR.out.2.1, HR.out.2.2, HW.out.2⟩
set_option maxHeartbeats 4000000 in
set_option maxRecDepth 100000 in
theorem bare0_any (A R : Option Addr) (c d : Nat) (w : World) : Calls Tryz.prog 16 #[.agg #[.int .i64 0, .int .i64 0, .int .i64 0, .int .i64 0, .int .i64 0, .int .i64 0, .string ⟨#[]⟩, .slice A 0 c, .slice R 0 d]] w fun x w' => x = .returned (.bool true) ∧ Below w.heap.size w w' := by
  have hz : veq 0 0 ⟨#[]⟩ 0 0 ⟨#[]⟩ = true := veq_self _ _ _
  go_enter Tryz.func16, Tryz.ntmps16
  go_wp2_with fail
  go_ret
  exact ⟨rfl, al (Below.refl _ _) _⟩
end Go.Proofs.YtdiehgfldndgbaaGreatDoor
