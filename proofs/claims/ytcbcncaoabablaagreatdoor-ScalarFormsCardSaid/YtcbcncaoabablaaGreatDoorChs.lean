/-
  CONTRACTS of scalar.chosen and firstOf: what OCase and OCoalesce do.
-/
import Derived.Test.YtcbcncaoabablaaGreatDoorPrV
import Derived.Test.YtcbcncaoabablaaGreatDoorGA21
import Derived.Test.YtcbcncaoabablaaGreatDoorGA22
namespace Go.Proofs.YtcbcncaoabablaaGreatDoor
open Go.RowKit

theorem veq_comm (a b : Int) (s : ByteArray) (a' b' : Int) (s' : ByteArray) : veq a b s a' b' s' = veq a' b' s' a b s := by
  unfold veq
  have c : ∀ x y : Int, (x == y) = (y == x) := fun x y => BEq.comm
  have d : ∀ x y : List UInt8, (x == y) = (y == x) := fun x y => BEq.comm
  rw [c a a', c b b', d s.toList s'.toList]
theorem cv_len : ∀ {l : List V}, l.length % 2 = 1 → (vals l).length = (conds l).length + 1
  | [v], _ => rfl
  | v :: u :: l, h => by
    have := cv_len (l := l) (by simp only [List.length_cons] at h; omega)
    rw [vals, conds, List.length_cons, List.length_cons, this]
theorem caseV_at {p : V → Bool} (hp : ∀ v, p v = v.isE true) : ∀ {l : List V}, l.length % 2 = 1 → (vals l)[(conds l).findIdx p]? = some (caseV l)
  | [v], _ => rfl
  | v :: u :: l, h => by
    have ih := caseV_at hp (l := l) (by simp only [List.length_cons] at h; omega)
    rw [vals, conds, caseV, List.findIdx_cons]
    cases hv : p v with
    | true => rw [if_pos (by rw [← hp, hv])]; rfl
    | false => rw [if_neg (by rw [← hp, hv]; decide)]; simpa using ih
set_option maxHeartbeats 2000000 in
set_option maxRecDepth 100000 in
theorem chosen_any (A : Option Addr) (c : Nat) (l : List V) (w : World) (hr : VReads w w.heap.size A l) (h2 : l.length % 2 = 1) (hn : l.length ≤ 1000) :
    Calls Tryz.prog 163 #[.slice A l.length c] w fun u w' => u = .returned (V.val (caseV l)) ∧ Below w.heap.size w w' := by
  have HP := Lib.hid (parted_val A c l (w.alloc (.cells #[.int .i64 0, .int .i64 0, .string ⟨#[]⟩] 25)) (hr.below (al (Below.refl _ _) _) (by simp)) (by omega) (by omega))
  have HL := Lib.hid (cv_len h2)
  have hp : ∀ v : V, veq 2 1 ⟨#[]⟩ v.k v.n v.s = v.isE true := fun v => by unfold V.isE; rw [veq_comm]; rfl
  have HC := Lib.hid (caseV_at (p := fun v => veq 2 1 ⟨#[]⟩ v.k v.n v.s) hp h2)
  have hpl := (pc_len (l.length - 1) l 0).1
  rw [(pc_conds l 0 (l.length - 1) rfl (by omega)).1] at hpl
  have HPl := Lib.hid hpl
  clear hr hp hpl h2
  go_enter Tryz.func163, Tryz.ntmps163
  go_wp2_with fail
  refine HP.out.mono ?_
  rintro x w2 ⟨v2, v3, rfl, hP⟩
  obtain ⟨A2, c2, rfl, -, -, hr2, -⟩ := own_reads hP.1
  obtain ⟨A3, c3, rfl, -, -, hr3, -⟩ := own_reads hP.2.1
  have H2 : Hid (VReads w2 w2.heap.size A2 (conds l) ∧ VReads w2 w2.heap.size A3 (vals l) ∧ Below w.heap.size w w2 ∧ Blk w2 w.heap.size 25 #[.int .i64 0, .int .i64 0, .string ⟨#[]⟩]) := Lib.hid ⟨hr2, hr3, thn (al (Below.refl _ _) _) hP.2.2.2, (Blk.new w 25 #[.int .i64 0, .int .i64 0, .string ⟨#[]⟩]).below hP.2.2.2 (Blk.new w 25 #[.int .i64 0, .int .i64 0, .string ⟨#[]⟩]).lt⟩
  clear hP hr2 hr3 HP
  go_wp2_with fail
  refine (truthS_any true _).mono ?_
  rintro x w3 ⟨rfl, hb3⟩
  have H3 : Hid (VReads w3 w3.heap.size A2 (conds l) ∧ VReads w3 w3.heap.size A3 (vals l) ∧ Below w.heap.size w w3 ∧ Blk w3 w.heap.size 25 #[.int .i64 0, .int .i64 0, .string ⟨#[]⟩]) := Lib.hid ⟨H2.out.1.below hb3 hb3.size, H2.out.2.1.below hb3 hb3.size, thn H2.out.2.2.1 hb3, H2.out.2.2.2.below hb3 H2.out.2.2.2.lt⟩
  clear hb3
  have HI := Lib.hid (Index_val ⟨2, 1, ⟨#[]⟩⟩ A2 c2 (conds l) w3 H3.out.1 (by have := HPl.out; omega))
  have hb21 : b2i true = 1 := rfl
  go_wp2_with fail
  refine HI.out.mono ?_
  rintro x w4 ⟨rfl, hb4⟩
  have H4 : Hid (VReads w4 w4.heap.size A3 (vals l) ∧ Below w.heap.size w w4 ∧ Blk w4 w.heap.size 25 #[.int .i64 0, .int .i64 0, .string ⟨#[]⟩]) := Lib.hid ⟨H3.out.2.1.below hb4 hb4.size, thn H3.out.2.2.1 hb4, H3.out.2.2.2.below hb4 H3.out.2.2.2.lt⟩
  clear hb4 hb21
  cases ha : (conds l).any (fun v => veq 2 1 ⟨#[]⟩ v.k v.n v.s) with
  | true =>
    have hz : idxV (fun v => veq 2 1 ⟨#[]⟩ v.k v.n v.s) (conds l) = ((conds l).findIdx (fun v => veq 2 1 ⟨#[]⟩ v.k v.n v.s) : Nat) := by unfold idxV; rw [if_pos ha]
    obtain ⟨i, hi⟩ : ∃ i, i = (conds l).findIdx (fun v => veq 2 1 ⟨#[]⟩ v.k v.n v.s) := ⟨_, rfl⟩
    rw [hz, ← hi]
    rw [← hi] at HC
    clear hz hi ha
    obtain ⟨hil, hiv⟩ := List.getElem?_eq_some_iff.1 HC.out
    obtain ⟨b, o, rfl, hblk, c0, c1, c2⟩ := H4.out.1.at_ hil
    rw [hiv] at c0 c1 c2
    have hge : ¬ ((i : Int) < 0) := by omega
    have hili : (i : Int) < ((vals l).length : Int) := by omega
    have hBr := H4.out.2.2
    have hBl := hBr.lt
    have f0 := hBr.frozen 0
    have d0 := hBr.cell 0
    have f1 := hBr.frozen 1
    have d1 := hBr.cell 1
    have f2 := hBr.frozen 2
    have d2 := hBr.cell 2
    simp only [List.getElem?_toArray, List.getElem?_cons_succ, List.getElem?_cons_zero] at d0 d1 d2
    go_wp2_with fail
    have HB := hBr.three_set (.int .i64 (caseV l).k) (.int .i64 (caseV l).n) (.string (caseV l).s)
    obtain ⟨⟨q0, q1, q2⟩, -⟩ := HB.three
    exact bodyPost_ret (v := .agg #[.int .i64 (caseV l).k, .int .i64 (caseV l).n, .string (caseV l).s]) (by simp [results, Tryz.results163, go_sem, q0, q1, q2]) rfl ⟨rfl, st3 H4.out.2.1 (Nat.le_refl _) _ _ _⟩
  | false =>
    have hz : idxV (fun v => veq 2 1 ⟨#[]⟩ v.k v.n v.s) (conds l) = -1 := by unfold idxV; rw [ha]; rfl
    have hi : (conds l).findIdx (fun v => veq 2 1 ⟨#[]⟩ v.k v.n v.s) = (conds l).length := findIdx_none ha
    rw [hz]
    rw [hi] at HC
    clear hz hi ha
    obtain ⟨hil, hiv⟩ := List.getElem?_eq_some_iff.1 HC.out
    obtain ⟨b, o, rfl, hblk, c0, c1, c2⟩ := H4.out.1.at_ hil
    rw [hiv] at c0 c1 c2
    have hili : ((conds l).length : Int) < ((vals l).length : Int) := by omega
    have hBr := H4.out.2.2
    have hBl := hBr.lt
    have f0 := hBr.frozen 0
    have d0 := hBr.cell 0
    have f1 := hBr.frozen 1
    have d1 := hBr.cell 1
    have f2 := hBr.frozen 2
    have d2 := hBr.cell 2
    simp only [List.getElem?_toArray, List.getElem?_cons_succ, List.getElem?_cons_zero] at d0 d1 d2
    go_wp2_with fail
    have HB := hBr.three_set (.int .i64 (caseV l).k) (.int .i64 (caseV l).n) (.string (caseV l).s)
    obtain ⟨⟨q0, q1, q2⟩, -⟩ := HB.three
    exact bodyPost_ret (v := .agg #[.int .i64 (caseV l).k, .int .i64 (caseV l).n, .string (caseV l).s]) (by simp [results, Tryz.results163, go_sem, q0, q1, q2]) rfl ⟨rfl, st3 H4.out.2.1 (Nat.le_refl _) _ _ _⟩
theorem coalV_drop : ∀ (l : List V) (j : Nat), j ≤ l.length → (∀ v ∈ l.take j, v.k = 0) → coalV l = coalV (l.drop j)
  | _, 0, _, _ => rfl
  | [], j + 1, h, _ => by simp at h
  | v :: l, j + 1, h, hv => by
    rw [coalV, if_pos (hv v (by simp)), List.drop_succ_cons]
    exact coalV_drop l j (by simpa using h) fun u hu => hv u (by simp [hu])
set_option maxHeartbeats 2000000 in
set_option maxRecDepth 100000 in
theorem firstOf_any (A : Option Addr) (c : Nat) (l : List V) (w : World) (hr : VReads w w.heap.size A l) (hn : l.length ≤ 1000) :
    Calls Tryz.prog 164 #[.slice A l.length c] w fun u w' => u = .returned (V.val (coalV l)) ∧ Below w.heap.size w w' := by
  have HR := Lib.hid hr
  clear hr
  have HK := Lib.hid (coalV_drop l)
  go_enter Tryz.func164, Tryz.ntmps164
  go_wp2_with fail
  go_loopw [7] (fun iv wr => ∃ j : Nat, j ≤ l.length ∧ iv = .int .i64 j ∧ Hid (Below w.heap.size w wr ∧ Blk wr w.heap.size 25 #[.int .i64 0, .int .i64 0, .string ⟨#[]⟩]) ∧ Hid (∀ v ∈ l.take j, v.k = 0)) (fun iv _ => l.length - (intOf iv).toNat)
  case atStart => exact ⟨0, Nat.zero_le _, rfl, ⟨al (Below.refl _ _) _, Blk.new _ _ _⟩, Lib.hid (fun v hv => by simp at hv)⟩
  case round =>
    obtain ⟨j, hj, rfl, HW, HT⟩ := hrel
    by_cases hlt : j < l.length
    · have hlti : (j : Int) < (l.length : Int) := by omega
      obtain ⟨b, o, rfl, hblk, c0, c1, c2⟩ := (HR.out.below HW.out.1 HW.out.1.size).at_ hlt
      have HTk := Lib.hid (List.take_succ_eq_append_getElem hlt)
      have HD := Lib.hid (List.drop_eq_getElem_cons hlt)
      have HKj := Lib.hid (HK.out j hj HT.out)
      have HN := Lib.hid (fun ob => isNullV_any l[j] (wr.alloc ob))
      have HB2 : ∀ ob w3, Below (wr.alloc ob).heap.size (wr.alloc ob) w3 → Hid (Below w.heap.size w w3 ∧ Blk w3 w.heap.size 25 #[.int .i64 0, .int .i64 0, .string ⟨#[]⟩]) := fun ob w3 hb => Lib.hid ⟨thn (al HW.out.1 _) hb, (HW.out.2.alloc _).below hb (by have := HW.out.2.lt; simp; omega)⟩
      have HU : ∀ ob w3 (u : V) (T : TypeId), ob = .cells #[.int .i64 u.k, .int .i64 u.n, .string u.s] T → Below (wr.alloc ob).heap.size (wr.alloc ob) w3 → Blk w3 wr.heap.size T #[.int .i64 u.k, .int .i64 u.n, .string u.s] := fun ob w3 u T he hb => by subst he; exact (Blk.new wr T _).below hb (Blk.new wr T _).lt
      cases hq : (l[j].k == 0) with
      | true =>
        have HZ : Hid (∀ v ∈ l.take (j + 1), v.k = 0) := Lib.hid (fun v hv => by
          rw [HTk.out, List.mem_append] at hv
          rcases hv with hv | hv
          · exact HT.out v hv
          · rw [List.mem_singleton] at hv; subst hv; simpa using hq)
        rw [hq] at HN
        clear hq HTk HD HKj
        generalize l[j] = u at *
        go_wp2_with fail
        refine (HN.out _).mono ?_
        rintro x w3 ⟨rfl, hb3⟩
        have H3 := HB2 _ _ hb3
        clear hb3 c0 c1 c2 HB2 HU
        go_wp2_with fail
        exact ⟨⟨j + 1, by omega, by go_num, H3, HZ⟩, by simp [intOf]; omega⟩
      | false =>
        have HR2 : Hid (coalV l = l[j]) := Lib.hid (by rw [HKj.out, HD.out, coalV, if_neg (by simpa using hq)])
        rw [hq] at HN
        clear hq HTk HD HKj
        generalize l[j] = u at *
        go_wp2_with fail
        refine (HN.out _).mono ?_
        rintro x w3 ⟨rfl, hb3⟩
        have H3 := HB2 _ _ hb3
        have hU := HU _ _ u _ rfl hb3
        obtain ⟨⟨v0, v1, v2⟩, -⟩ := hU.three
        clear hb3 c0 c1 c2 HB2 HU hU
        have hBr := H3.out.2
        have hBl := hBr.lt
        have f0 := hBr.frozen 0
        have d0 := hBr.cell 0
        have f1 := hBr.frozen 1
        have d1 := hBr.cell 1
        have f2 := hBr.frozen 2
        have d2 := hBr.cell 2
        simp only [List.getElem?_toArray, List.getElem?_cons_succ, List.getElem?_cons_zero] at d0 d1 d2
        go_wp2_with fail
        have HB := hBr.three_set (.int .i64 u.k) (.int .i64 u.n) (.string u.s)
        obtain ⟨⟨q0, q1, q2⟩, -⟩ := HB.three
        exact bodyPost_ret (v := .agg #[.int .i64 u.k, .int .i64 u.n, .string u.s]) (by simp [results, Tryz.results164, go_sem, q0, q1, q2]) rfl ⟨by rw [HR2.out]; rfl, st3 H3.out.1 (Nat.le_refl _) _ _ _⟩
    · have hlf : decide ((j : Int) < (l.length : Int)) = false := decide_eq_false (by omega)
      have HR2 : Hid (coalV l = zV) := Lib.hid (by rw [HK.out j hj HT.out, List.drop_eq_nil_of_le (by omega)]; rfl)
      have hBr := HW.out.2
      have hBl := hBr.lt
      have f0 := hBr.frozen 0
      have d0 := hBr.cell 0
      have f1 := hBr.frozen 1
      have d1 := hBr.cell 1
      have f2 := hBr.frozen 2
      have d2 := hBr.cell 2
      simp only [List.getElem?_toArray, List.getElem?_cons_succ, List.getElem?_cons_zero] at d0 d1 d2
      go_wp2_with fail
      have HB := hBr.three_set (.int .i64 0) (.int .i64 0) (.string ⟨#[]⟩)
      obtain ⟨⟨q0, q1, q2⟩, -⟩ := HB.three
      exact bodyPost_ret (v := .agg #[.int .i64 0, .int .i64 0, .string ⟨#[]⟩]) (by simp [results, Tryz.results164, go_sem, q0, q1, q2]) rfl ⟨by rw [HR2.out]; rfl, st3 HW.out.1 (Nat.le_refl _) _ _ _⟩
end Go.Proofs.YtcbcncaoabablaaGreatDoor
