/-
  Chs: CONTRACTS of scalar.chosen and firstOf: what OCase and OCoalesce do.
  OpC: CONTRACT of what operationOf gives: the call of it.
  Tru: CONTRACTS of scalar.through with the closure of operations, and of operations: the map of what the operations of an expression do.
  Evl: CONTRACT of scalar.eval: the value of an expression on a row.
  Eva: CONTRACT of scalar.Eval.
-/
import Derived.Test.YtdiehgfldndgbaaGreatDoorPrV
import Derived.Test.YtdiehgfldndgbaaGreatDoorGA22
import Derived.Test.YtdiehgfldndgbaaGreatDoorGB23
import Derived.Test.YtdiehgfldndgbaaGreatDoorGA13
import Derived.Test.YtdiehgfldndgbaaGreatDoorGA08
import Derived.Test.YtdiehgfldndgbaaGreatDoorGA18
import Derived.Test.YtdiehgfldndgbaaGreatDoorGA05
namespace Go.Proofs.YtdiehgfldndgbaaGreatDoor
open Go.RowKit

theorem veq_comm (a b : Int) (s : ByteArray) (a' b' : Int) (s' : ByteArray) : veq a b s a' b' s' = veq a' b' s' a b s := by
  unfold veq
  have c : ∀ x y : Int, (x == y) = (y == x) := fun x y => BEq.comm
  have d : ∀ x y : List UInt8, (x == y) = (y == x) := fun x y => BEq.comm
  rw [c a a', c b b', d s.toList s'.toList]
theorem cv_len : ∀ {l : List V}, l.length % 2 = 1 → (vals l).length = (conds l).length + 1
  | [v], _ => rfl
  | v :: u :: l, h => by
    have := cv_len (l := l) (by simp only [List.length_cons] at h; omega)
    rw [vals, conds, List.length_cons, List.length_cons, this]
theorem caseV_at {p : V → Bool} (hp : ∀ v, p v = v.isE true) : ∀ {l : List V}, l.length % 2 = 1 → (vals l)[(conds l).findIdx p]? = some (caseV l)
  | [v], _ => rfl
  | v :: u :: l, h => by
    have ih := caseV_at hp (l := l) (by simp only [List.length_cons] at h; omega)
    rw [vals, conds, caseV, List.findIdx_cons]
    cases hv : p v with
    | true => rw [if_pos (by rw [← hp, hv])]; rfl
    | false => rw [if_neg (by rw [← hp, hv]; decide)]; simpa using ih
set_option maxHeartbeats 2000000 in
set_option maxRecDepth 100000 in
theorem chosen_any (A : Option Addr) (c : Nat) (l : List V) (w : World) (hr : VReads w w.heap.size A l) (h2 : l.length % 2 = 1) (hn : l.length ≤ 1000) :
    Calls Tryz.prog 194 #[.slice A l.length c] w fun u w' => u = .returned (V.val (caseV l)) ∧ Below w.heap.size w w' := by
  have HP := Lib.hid (parted_val A c l (w.alloc (.cells #[.int .i64 0, .int .i64 0, .string ⟨#[]⟩] 27)) (hr.below (al (Below.refl _ _) _) (by simp)) (by omega) (by omega))
  have HL := Lib.hid (cv_len h2)
  have hp : ∀ v : V, veq 2 1 ⟨#[]⟩ v.k v.n v.s = v.isE true := fun v => by unfold V.isE; rw [veq_comm]; rfl
  have HC := Lib.hid (caseV_at (p := fun v => veq 2 1 ⟨#[]⟩ v.k v.n v.s) hp h2)
  have hpl := (pc_len (l.length - 1) l 0).1
  rw [(pc_conds l 0 (l.length - 1) rfl (by omega)).1] at hpl
  have HPl := Lib.hid hpl
  clear hr hp hpl h2
  go_enter Tryz.func194, Tryz.ntmps194
  go_wp2_with fail
  refine HP.out.mono ?_
  rintro x w2 ⟨v2, v3, rfl, hP⟩
  obtain ⟨A2, c2, rfl, -, -, hr2, -⟩ := own_reads hP.1
  obtain ⟨A3, c3, rfl, -, -, hr3, -⟩ := own_reads hP.2.1
  have H2 : Hid (VReads w2 w2.heap.size A2 (conds l) ∧ VReads w2 w2.heap.size A3 (vals l) ∧ Below w.heap.size w w2 ∧ Blk w2 w.heap.size 27 #[.int .i64 0, .int .i64 0, .string ⟨#[]⟩]) := Lib.hid ⟨hr2, hr3, thn (al (Below.refl _ _) _) hP.2.2.2, (Blk.new w 27 #[.int .i64 0, .int .i64 0, .string ⟨#[]⟩]).below hP.2.2.2 (Blk.new w 27 #[.int .i64 0, .int .i64 0, .string ⟨#[]⟩]).lt⟩
  clear hP hr2 hr3 HP
  go_wp2_with fail
  refine (truthS_any true _).mono ?_
  rintro x w3 ⟨rfl, hb3⟩
  have H3 : Hid (VReads w3 w3.heap.size A2 (conds l) ∧ VReads w3 w3.heap.size A3 (vals l) ∧ Below w.heap.size w w3 ∧ Blk w3 w.heap.size 27 #[.int .i64 0, .int .i64 0, .string ⟨#[]⟩]) := Lib.hid ⟨H2.out.1.below hb3 hb3.size, H2.out.2.1.below hb3 hb3.size, thn H2.out.2.2.1 hb3, H2.out.2.2.2.below hb3 H2.out.2.2.2.lt⟩
  clear hb3
  have HI := Lib.hid (Index_val ⟨2, 1, ⟨#[]⟩⟩ A2 c2 (conds l) w3 H3.out.1 (by have := HPl.out; omega))
  have hb21 : b2i true = 1 := rfl
  go_wp2_with fail
  refine HI.out.mono ?_
  rintro x w4 ⟨rfl, hb4⟩
  have H4 : Hid (VReads w4 w4.heap.size A3 (vals l) ∧ Below w.heap.size w w4 ∧ Blk w4 w.heap.size 27 #[.int .i64 0, .int .i64 0, .string ⟨#[]⟩]) := Lib.hid ⟨H3.out.2.1.below hb4 hb4.size, thn H3.out.2.2.1 hb4, H3.out.2.2.2.below hb4 H3.out.2.2.2.lt⟩
  clear hb4 hb21
  cases ha : (conds l).any (fun v => veq 2 1 ⟨#[]⟩ v.k v.n v.s) with
  | true =>
    have hz : idxV (fun v => veq 2 1 ⟨#[]⟩ v.k v.n v.s) (conds l) = ((conds l).findIdx (fun v => veq 2 1 ⟨#[]⟩ v.k v.n v.s) : Nat) := by unfold idxV; rw [if_pos ha]
    obtain ⟨i, hi⟩ : ∃ i, i = (conds l).findIdx (fun v => veq 2 1 ⟨#[]⟩ v.k v.n v.s) := ⟨_, rfl⟩
    rw [hz, ← hi]
    rw [← hi] at HC
    clear hz hi ha
    obtain ⟨hil, hiv⟩ := List.getElem?_eq_some_iff.1 HC.out
    obtain ⟨b, o, rfl, hblk, c0, c1, c2⟩ := H4.out.1.at_ hil
    rw [hiv] at c0 c1 c2
    have hge : ¬ ((i : Int) < 0) := by omega
    have hili : (i : Int) < ((vals l).length : Int) := by omega
    have hBr := H4.out.2.2
    have hBl := hBr.lt
    have f0 := hBr.frozen 0
    have d0 := hBr.cell 0
    have f1 := hBr.frozen 1
    have d1 := hBr.cell 1
    have f2 := hBr.frozen 2
    have d2 := hBr.cell 2
    simp only [List.getElem?_toArray, List.getElem?_cons_succ, List.getElem?_cons_zero] at d0 d1 d2
    go_wp2_with fail
    have HB := hBr.three_set (.int .i64 (caseV l).k) (.int .i64 (caseV l).n) (.string (caseV l).s)
    obtain ⟨⟨q0, q1, q2⟩, -⟩ := HB.three
    exact bodyPost_ret (v := .agg #[.int .i64 (caseV l).k, .int .i64 (caseV l).n, .string (caseV l).s]) (by simp [results, Tryz.results194, go_sem, q0, q1, q2]) rfl ⟨rfl, st3 H4.out.2.1 (Nat.le_refl _) _ _ _⟩
  | false =>
    have hz : idxV (fun v => veq 2 1 ⟨#[]⟩ v.k v.n v.s) (conds l) = -1 := by unfold idxV; rw [ha]; rfl
    have hi : (conds l).findIdx (fun v => veq 2 1 ⟨#[]⟩ v.k v.n v.s) = (conds l).length := findIdx_none ha
    rw [hz]
    rw [hi] at HC
    clear hz hi ha
    obtain ⟨hil, hiv⟩ := List.getElem?_eq_some_iff.1 HC.out
    obtain ⟨b, o, rfl, hblk, c0, c1, c2⟩ := H4.out.1.at_ hil
    rw [hiv] at c0 c1 c2
    have hili : ((conds l).length : Int) < ((vals l).length : Int) := by omega
    have hBr := H4.out.2.2
    have hBl := hBr.lt
    have f0 := hBr.frozen 0
    have d0 := hBr.cell 0
    have f1 := hBr.frozen 1
    have d1 := hBr.cell 1
    have f2 := hBr.frozen 2
    have d2 := hBr.cell 2
    simp only [List.getElem?_toArray, List.getElem?_cons_succ, List.getElem?_cons_zero] at d0 d1 d2
    go_wp2_with fail
    have HB := hBr.three_set (.int .i64 (caseV l).k) (.int .i64 (caseV l).n) (.string (caseV l).s)
    obtain ⟨⟨q0, q1, q2⟩, -⟩ := HB.three
    exact bodyPost_ret (v := .agg #[.int .i64 (caseV l).k, .int .i64 (caseV l).n, .string (caseV l).s]) (by simp [results, Tryz.results194, go_sem, q0, q1, q2]) rfl ⟨rfl, st3 H4.out.2.1 (Nat.le_refl _) _ _ _⟩
theorem coalV_drop : ∀ (l : List V) (j : Nat), j ≤ l.length → (∀ v ∈ l.take j, v.k = 0) → coalV l = coalV (l.drop j)
  | _, 0, _, _ => rfl
  | [], j + 1, h, _ => by simp at h
  | v :: l, j + 1, h, hv => by
    rw [coalV, if_pos (hv v (by simp)), List.drop_succ_cons]
    exact coalV_drop l j (by simpa using h) fun u hu => hv u (by simp [hu])
set_option maxHeartbeats 2000000 in
set_option maxRecDepth 100000 in
theorem firstOf_any (A : Option Addr) (c : Nat) (l : List V) (w : World) (hr : VReads w w.heap.size A l) (hn : l.length ≤ 1000) :
    Calls Tryz.prog 195 #[.slice A l.length c] w fun u w' => u = .returned (V.val (coalV l)) ∧ Below w.heap.size w w' := by
  have HR := Lib.hid hr
  clear hr
  have HK := Lib.hid (coalV_drop l)
  go_enter Tryz.func195, Tryz.ntmps195
  go_wp2_with fail
  go_loopw [7] (fun iv wr => ∃ j : Nat, j ≤ l.length ∧ iv = .int .i64 j ∧ Hid (Below w.heap.size w wr ∧ Blk wr w.heap.size 27 #[.int .i64 0, .int .i64 0, .string ⟨#[]⟩]) ∧ Hid (∀ v ∈ l.take j, v.k = 0)) (fun iv _ => l.length - (intOf iv).toNat)
  case atStart => exact ⟨0, Nat.zero_le _, rfl, ⟨al (Below.refl _ _) _, Blk.new _ _ _⟩, Lib.hid (fun v hv => by simp at hv)⟩
  case round =>
    obtain ⟨j, hj, rfl, HW, HT⟩ := hrel
    by_cases hlt : j < l.length
    · have hlti : (j : Int) < (l.length : Int) := by omega
      obtain ⟨b, o, rfl, hblk, c0, c1, c2⟩ := (HR.out.below HW.out.1 HW.out.1.size).at_ hlt
      have HTk := Lib.hid (List.take_succ_eq_append_getElem hlt)
      have HD := Lib.hid (List.drop_eq_getElem_cons hlt)
      have HKj := Lib.hid (HK.out j hj HT.out)
      have HN := Lib.hid (fun ob => isNullV_any l[j] (wr.alloc ob))
      have HB2 : ∀ ob w3, Below (wr.alloc ob).heap.size (wr.alloc ob) w3 → Hid (Below w.heap.size w w3 ∧ Blk w3 w.heap.size 27 #[.int .i64 0, .int .i64 0, .string ⟨#[]⟩]) := fun ob w3 hb => Lib.hid ⟨thn (al HW.out.1 _) hb, (HW.out.2.alloc _).below hb (by have := HW.out.2.lt; simp; omega)⟩
      have HU : ∀ ob w3 (u : V) (T : TypeId), ob = .cells #[.int .i64 u.k, .int .i64 u.n, .string u.s] T → Below (wr.alloc ob).heap.size (wr.alloc ob) w3 → Blk w3 wr.heap.size T #[.int .i64 u.k, .int .i64 u.n, .string u.s] := fun ob w3 u T he hb => by subst he; exact (Blk.new wr T _).below hb (Blk.new wr T _).lt
      cases hq : (l[j].k == 0) with
      | true =>
        have HZ : Hid (∀ v ∈ l.take (j + 1), v.k = 0) := Lib.hid (fun v hv => by
          rw [HTk.out, List.mem_append] at hv
          rcases hv with hv | hv
          · exact HT.out v hv
          · rw [List.mem_singleton] at hv; subst hv; simpa using hq)
        rw [hq] at HN
        clear hq HTk HD HKj
        generalize l[j] = u at *
        go_wp2_with fail
        refine (HN.out _).mono ?_
        rintro x w3 ⟨rfl, hb3⟩
        have H3 := HB2 _ _ hb3
        clear hb3 c0 c1 c2 HB2 HU
        go_wp2_with fail
        exact ⟨⟨j + 1, by omega, by go_num, H3, HZ⟩, by simp [intOf]; omega⟩
      | false =>
        have HR2 : Hid (coalV l = l[j]) := Lib.hid (by rw [HKj.out, HD.out, coalV, if_neg (by simpa using hq)])
        rw [hq] at HN
        clear hq HTk HD HKj
        generalize l[j] = u at *
        go_wp2_with fail
        refine (HN.out _).mono ?_
        rintro x w3 ⟨rfl, hb3⟩
        have H3 := HB2 _ _ hb3
        have hU := HU _ _ u _ rfl hb3
        obtain ⟨⟨v0, v1, v2⟩, -⟩ := hU.three
        clear hb3 c0 c1 c2 HB2 HU hU
        have hBr := H3.out.2
        have hBl := hBr.lt
        have f0 := hBr.frozen 0
        have d0 := hBr.cell 0
        have f1 := hBr.frozen 1
        have d1 := hBr.cell 1
        have f2 := hBr.frozen 2
        have d2 := hBr.cell 2
        simp only [List.getElem?_toArray, List.getElem?_cons_succ, List.getElem?_cons_zero] at d0 d1 d2
        go_wp2_with fail
        have HB := hBr.three_set (.int .i64 u.k) (.int .i64 u.n) (.string u.s)
        obtain ⟨⟨q0, q1, q2⟩, -⟩ := HB.three
        exact bodyPost_ret (v := .agg #[.int .i64 u.k, .int .i64 u.n, .string u.s]) (by simp [results, Tryz.results195, go_sem, q0, q1, q2]) rfl ⟨by rw [HR2.out]; rfl, st3 H3.out.1 (Nat.le_refl _) _ _ _⟩
    · have hlf : decide ((j : Int) < (l.length : Int)) = false := decide_eq_false (by omega)
      have HR2 : Hid (coalV l = zV) := Lib.hid (by rw [HK.out j hj HT.out, List.drop_eq_nil_of_le (by omega)]; rfl)
      have hBr := HW.out.2
      have hBl := hBr.lt
      have f0 := hBr.frozen 0
      have d0 := hBr.cell 0
      have f1 := hBr.frozen 1
      have d1 := hBr.cell 1
      have f2 := hBr.frozen 2
      have d2 := hBr.cell 2
      simp only [List.getElem?_toArray, List.getElem?_cons_succ, List.getElem?_cons_zero] at d0 d1 d2
      go_wp2_with fail
      have HB := hBr.three_set (.int .i64 0) (.int .i64 0) (.string ⟨#[]⟩)
      obtain ⟨⟨q0, q1, q2⟩, -⟩ := HB.three
      exact bodyPost_ret (v := .agg #[.int .i64 0, .int .i64 0, .string ⟨#[]⟩]) (by simp [results, Tryz.results195, go_sem, q0, q1, q2]) rfl ⟨by rw [HR2.out]; rfl, st3 HW.out.1 (Nat.le_refl _) _ _ _⟩
end Go.Proofs.YtdiehgfldndgbaaGreatDoor
namespace Go.Proofs.YtdiehgfldndgbaaGreatDoor
open Go.RowKit

theorem two_of {l : List V} (h : l.length = 2) : ∃ x y, l = [x, y] := by
  match l, h with
  | [x, y], _ => exact ⟨x, y, rfl⟩
theorem one_of {l : List V} (h : l.length = 1) : ∃ x, l = [x] := by
  match l, h with
  | [x], _ => exact ⟨x, rfl⟩
theorem many_two (m n : Nat) (h : manyB m n = true) (hm : m = 4 ∨ m = 5 ∨ m = 6 ∨ m = 7 ∨ m = 8 ∨ m = 10 ∨ m = 12 ∨ m = 13 ∨ m = 14 ∨ m = 15 ∨ m = 16 ∨ m = 17 ∨ m = 18) : n = 2 := by
  rcases hm with rfl | rfl | rfl | rfl | rfl | rfl | rfl | rfl | rfl | rfl | rfl | rfl | rfl <;> (simp [manyB] at h; omega)
theorem many_one (m n : Nat) (h : manyB m n = true) (hm : m = 9 ∨ m = 11 ∨ m = 21 ∨ m = 22 ∨ m = 23) : n = 1 := by
  rcases hm with rfl | rfl | rfl | rfl | rfl <;> (simp [manyB] at h; omega)
theorem opV_s (m : Nat) (h : m ≤ 17) (l : List V) (hn : (l.any fun v => v.k == 0) = false) : opV m l = strictV m (l.headD zV) (l.getLast?.getD zV) := by
  unfold opV
  rw [if_neg (by omega), if_neg (by omega), if_neg (by omega), if_neg (by omega), if_neg (by omega), if_neg (by omega), if_neg (by omega), if_neg (by omega), hn]
  rfl
theorem cmpV_veq (x y : V) : (cmpV x.k x.n x.s y.k y.n y.s == 0) = veq x.k x.n x.s y.k y.n y.s := by
  unfold cmpV veq
  rw [ByteArray.toList_eq, ByteArray.toList_eq]
  by_cases hk : x.k = y.k
  · rw [if_pos hk, beq_iff_eq.2 hk, Bool.true_and]
    by_cases hn : x.n = y.n
    · rw [if_pos hn, beq_iff_eq.2 hn, Bool.true_and, Bool.eq_iff_iff, beq_iff_eq, beq_iff_eq]
      exact ⟨cb_eq _ _, fun e => by rw [e]; exact cb_self _⟩
    · rw [if_neg hn, beq_eq_false_iff_ne.2 hn, Bool.false_and, beq_eq_false_iff_ne]
      unfold cmpI
      split
      · decide
      · split
        · decide
        · omega
  · rw [if_neg hk, beq_eq_false_iff_ne.2 hk, Bool.false_and, beq_eq_false_iff_ne]
    unfold cmpI
    split
    · decide
    · split
      · decide
      · omega
theorem notV_isE {x : V} (hok : x.ok = true) (h0 : ¬ x.k = 0) (h2 : x.k = 0 ∨ x.k = 2) : notV x = truV (x.isE false) := by
  obtain ⟨k, n, s⟩ := x
  have hk : k = 2 := by rcases h2 with h | h <;> first | exact absurd h h0 | exact h
  subst hk
  unfold notV
  rw [if_neg (show ¬ (2 : Int) = 0 by decide)]
  rcases ok_cases (k := 2) (n := n) (s := s) hok with ⟨h, _⟩ | ⟨h, _⟩ | ⟨_, rfl, rfl⟩ | ⟨_, rfl, rfl⟩ | ⟨h, _⟩
  · cases h
  · cases h
  · have e : V.isE false ⟨2, 0, ⟨#[]⟩⟩ = true := by unfold V.isE veq; simp [b2i]
    first | (rw [e]; rfl) | rfl
  · have e : V.isE false ⟨2, 0, ⟨#[]⟩⟩ = true := by unfold V.isE veq; simp [b2i]
    first | rfl | (rw [e]; rfl)
  · cases h
theorem chkT_fits {l : List V} {ks : List Co} (hf : fitsL l ks = true) (hk : allK ks 2 = true) (hok : ∀ v ∈ l, v.ok = true) (hn : l.length ≤ 20000) : chkT l = 0 := by
  have htr : ∀ v ∈ l, v.tr = true := fun v hv => by
    have := fits_one hf hk hv
    rw [fitB_iff] at this
    unfold V.tr
    rcases this with h | h
    · rw [show v.k = 2 from h]; rfl
    · rw [h.2]; rfl
  exact chkT_good (chk_good hn (List.all_eq_true.2 hok)) (List.all_eq_true.2 htr)
/-- what is asked of the call of what operationOf gives -/
def OpCall (m : Nat) (v : Value) (A : Option Addr) (c : Nat) (l : List V) (w : World) : Prop :=
  (∃ K, v = fnV K ∧ (∀ args W, (callFunc K args).run Tryz.prog W = .ok (.enter K args) W) ∧ Calls Tryz.prog K #[.slice A l.length c] w fun u w' => u = .returned (V.val (opV m l)) ∧ Below w.heap.size w w') ∨
  (∃ K g, v = .func (.func K) #[] #[.pointer (some ⟨g, 0, none⟩)] ∧ (∀ args W, (callFunc K args).run Tryz.prog W = .ok (.enter K args) W) ∧ Calls Tryz.prog K #[.slice A l.length c, .pointer (some ⟨g, 0, none⟩)] w fun u w' => u = .returned (V.val (opV m l)) ∧ Below w.heap.size w w')
theorem OpFn.call {w : World} {m : Nat} {v : Value} (h : OpFn w m v) (h4 : 4 ≤ m) (h25 : m ≤ 25) (l : List V) (A : Option Addr) (c : Nat) (ks : List Co) (cc : Co) (hr : VReads w w.heap.size A l) (hm : manyB m l.length = true) (hf : fitsL l ks = true) (hok : ∀ v ∈ l, v.ok = true) (hc : combE m 0 0 ks = some cc) (hn : strB2 m = true → (l.any fun v => v.k == 0) = false) : OpCall m v A c l w := by
  have hlen : l.length ≤ 16 := (many_le hm).1
  have hfit : VFit l := fun v hv => ok_max (hok v hv)
  have : m = 4 ∨ m = 5 ∨ m = 6 ∨ m = 7 ∨ m = 8 ∨ m = 9 ∨ m = 10 ∨ m = 11 ∨ m = 12 ∨ m = 13 ∨ m = 14 ∨ m = 15 ∨ m = 16 ∨ m = 17 ∨ m = 18 ∨ m = 19 ∨ m = 20 ∨ m = 21 ∨ m = 22 ∨ m = 23 ∨ m = 24 ∨ m = 25 := by omega
  rcases this with rfl | rfl | rfl | rfl | rfl | rfl | rfl | rfl | rfl | rfl | rfl | rfl | rfl | rfl | rfl | rfl | rfl | rfl | rfl | rfl | rfl | rfl
  · -- 4
    have ho := opV_s 4 (by decide) l (hn rfl)
    obtain ⟨x, y, rfl⟩ := two_of (many_two 4 _ hm (by decide))
    obtain ⟨g, rfl, hB⟩ : clos w 233 217 170 v := h
    refine .inr ⟨_, g, rfl, enters_of Tryz.func233 (by kernel_rfl) rfl, ?_⟩
    rw [ho]
    exact calc1_any 170 (fun a b => wrap64 (a + b)) g A c x y w hB (enters_of Tryz.func170 (by kernel_rfl) rfl) arith1_any hr
  · -- 5
    have ho := opV_s 5 (by decide) l (hn rfl)
    obtain ⟨x, y, rfl⟩ := two_of (many_two 5 _ hm (by decide))
    obtain ⟨g, rfl, hB⟩ : clos w 233 217 171 v := h
    refine .inr ⟨_, g, rfl, enters_of Tryz.func233 (by kernel_rfl) rfl, ?_⟩
    rw [ho]
    exact calc1_any 171 (fun a b => wrap64 (a - b)) g A c x y w hB (enters_of Tryz.func171 (by kernel_rfl) rfl) arith2_any hr
  · -- 6
    have ho := opV_s 6 (by decide) l (hn rfl)
    obtain ⟨x, y, rfl⟩ := two_of (many_two 6 _ hm (by decide))
    obtain ⟨g, rfl, hB⟩ : clos w 233 217 172 v := h
    refine .inr ⟨_, g, rfl, enters_of Tryz.func233 (by kernel_rfl) rfl, ?_⟩
    rw [ho]
    exact calc1_any 172 (fun a b => wrap64 (a * b)) g A c x y w hB (enters_of Tryz.func172 (by kernel_rfl) rfl) arith3_any hr
  · -- 7
    have ho := opV_s 7 (by decide) l (hn rfl)
    obtain ⟨x, y, rfl⟩ := two_of (many_two 7 _ hm (by decide))
    obtain ⟨g, rfl, hB⟩ : clos w 234 217 174 v := h
    refine .inr ⟨_, g, rfl, enters_of Tryz.func234 (by kernel_rfl) rfl, ?_⟩
    rw [ho]
    exact div1_any 174 (fun a b => wrap64 (a.tdiv b)) g A c x y w hB (enters_of Tryz.func174 (by kernel_rfl) rfl) arith4_any hr
  · -- 8
    have ho := opV_s 8 (by decide) l (hn rfl)
    obtain ⟨x, y, rfl⟩ := two_of (many_two 8 _ hm (by decide))
    obtain ⟨g, rfl, hB⟩ : clos w 234 217 175 v := h
    refine .inr ⟨_, g, rfl, enters_of Tryz.func234 (by kernel_rfl) rfl, ?_⟩
    rw [ho]
    exact div1_any 175 (fun a b => a.tmod b) g A c x y w hB (enters_of Tryz.func175 (by kernel_rfl) rfl) arith5_any hr
  · -- 9
    have ho := opV_s 9 (by decide) l (hn rfl)
    obtain ⟨x, rfl⟩ := one_of (many_one 9 _ hm (by decide))
    obtain rfl : v = fnV 176 := h
    refine .inl ⟨_, rfl, enters_of Tryz.func176 (by kernel_rfl) rfl, ?_⟩
    rw [ho]
    exact neg1_any A c x w hr
  · -- 10
    have ho := opV_s 10 (by decide) l (hn rfl)
    obtain ⟨x, y, rfl⟩ := two_of (many_two 10 _ hm (by decide))
    obtain rfl : v = fnV 178 := h
    refine .inl ⟨_, rfl, enters_of Tryz.func178 (by kernel_rfl) rfl, ?_⟩
    rw [ho]
    exact concat1_any A c x y w hr (ok_size (hok x (by simp))) (ok_size (hok y (by simp)))
  · -- 11
    have ho := opV_s 11 (by decide) l (hn rfl)
    obtain ⟨x, rfl⟩ := one_of (many_one 11 _ hm (by decide))
    obtain rfl : v = fnV 180 := h
    refine .inl ⟨_, rfl, enters_of Tryz.func180 (by kernel_rfl) rfl, ?_⟩
    rw [ho]
    exact len1_any A c x w hr (ok_size (hok x (by simp)))
  · -- 12
    have ho := opV_s 12 (by decide) l (hn rfl)
    obtain ⟨x, y, rfl⟩ := two_of (many_two 12 _ hm (by decide))
    obtain ⟨g, rfl, hB⟩ : clos w 235 101 182 v := h
    refine .inr ⟨_, g, rfl, enters_of Tryz.func235 (by kernel_rfl) rfl, ?_⟩
    rw [ho]
    exact cmp1_any 182 (fun n => n == 0) g A c x y w hB (enters_of Tryz.func182 (by kernel_rfl) rfl) cmp9_any hr (hok x (by simp)) (hok y (by simp))
  · -- 13
    have ho := opV_s 13 (by decide) l (hn rfl)
    obtain ⟨x, y, rfl⟩ := two_of (many_two 13 _ hm (by decide))
    obtain ⟨g, rfl, hB⟩ : clos w 235 101 183 v := h
    refine .inr ⟨_, g, rfl, enters_of Tryz.func235 (by kernel_rfl) rfl, ?_⟩
    rw [ho]
    exact cmp1_any 183 (fun n => n != 0) g A c x y w hB (enters_of Tryz.func183 (by kernel_rfl) rfl) cmp10_any hr (hok x (by simp)) (hok y (by simp))
  · -- 14
    have ho := opV_s 14 (by decide) l (hn rfl)
    obtain ⟨x, y, rfl⟩ := two_of (many_two 14 _ hm (by decide))
    obtain ⟨g, rfl, hB⟩ : clos w 235 101 184 v := h
    refine .inr ⟨_, g, rfl, enters_of Tryz.func235 (by kernel_rfl) rfl, ?_⟩
    rw [ho]
    exact cmp1_any 184 (fun n => decide (n < 0)) g A c x y w hB (enters_of Tryz.func184 (by kernel_rfl) rfl) cmp11_any hr (hok x (by simp)) (hok y (by simp))
  · -- 15
    have ho := opV_s 15 (by decide) l (hn rfl)
    obtain ⟨x, y, rfl⟩ := two_of (many_two 15 _ hm (by decide))
    obtain ⟨g, rfl, hB⟩ : clos w 235 101 185 v := h
    refine .inr ⟨_, g, rfl, enters_of Tryz.func235 (by kernel_rfl) rfl, ?_⟩
    rw [ho]
    exact cmp1_any 185 (fun n => decide (n ≤ 0)) g A c x y w hB (enters_of Tryz.func185 (by kernel_rfl) rfl) cmp12_any hr (hok x (by simp)) (hok y (by simp))
  · -- 16
    have ho := opV_s 16 (by decide) l (hn rfl)
    obtain ⟨x, y, rfl⟩ := two_of (many_two 16 _ hm (by decide))
    obtain ⟨g, rfl, hB⟩ : clos w 235 101 186 v := h
    refine .inr ⟨_, g, rfl, enters_of Tryz.func235 (by kernel_rfl) rfl, ?_⟩
    rw [ho]
    exact cmp1_any 186 (fun n => decide (0 < n)) g A c x y w hB (enters_of Tryz.func186 (by kernel_rfl) rfl) cmp13_any hr (hok x (by simp)) (hok y (by simp))
  · -- 17
    have ho := opV_s 17 (by decide) l (hn rfl)
    obtain ⟨x, y, rfl⟩ := two_of (many_two 17 _ hm (by decide))
    obtain ⟨g, rfl, hB⟩ : clos w 235 101 187 v := h
    refine .inr ⟨_, g, rfl, enters_of Tryz.func235 (by kernel_rfl) rfl, ?_⟩
    rw [ho]
    exact cmp1_any 187 (fun n => decide (0 ≤ n)) g A c x y w hB (enters_of Tryz.func187 (by kernel_rfl) rfl) cmp14_any hr (hok x (by simp)) (hok y (by simp))
  · -- 18
    obtain ⟨x, y, rfl⟩ := two_of (many_two 18 _ hm (by decide))
    obtain ⟨g, rfl, hB⟩ : clos w 235 101 182 v := h
    refine .inr ⟨_, g, rfl, enters_of Tryz.func235 (by kernel_rfl) rfl, ?_⟩
    have ho : opV (18 : Nat) [x, y] = truV (cmpV x.k x.n x.s y.k y.n y.s == 0) := by rw [cmpV_veq]; rfl
    rw [ho]
    exact cmp1_any 182 (fun n => n == 0) g A c x y w hB (enters_of Tryz.func182 (by kernel_rfl) rfl) cmp9_any hr (hok x (by simp)) (hok y (by simp))
  · -- 19
    have ha : allK ks 2 = true := by
      cases ha : allK ks 2 with
      | true => rfl
      | false => simp [combE, ha] at hc
    have h0 := chkT_fits hf ha hok (by omega)
    obtain ⟨g, rfl, hB⟩ : clos w 237 220 189 v := h
    refine .inr ⟨_, g, rfl, enters_of Tryz.func237 (by kernel_rfl) rfl, ?_⟩
    exact hold1_any 189 false g A c l w hB (enters_of Tryz.func189 (by kernel_rfl) rfl) (fun w1 hb => And_ok A c l w1 (hr.below hb hb.size) hfit (by unfold maxLen; omega) h0)
  · -- 20
    have ha : allK ks 2 = true := by
      cases ha : allK ks 2 with
      | true => rfl
      | false => simp [combE, ha] at hc
    have h0 := chkT_fits hf ha hok (by omega)
    obtain ⟨g, rfl, hB⟩ : clos w 237 220 190 v := h
    refine .inr ⟨_, g, rfl, enters_of Tryz.func237 (by kernel_rfl) rfl, ?_⟩
    exact hold1_any 190 true g A c l w hB (enters_of Tryz.func190 (by kernel_rfl) rfl) (fun w1 hb => Or_ok A c l w1 (hr.below hb hb.size) hfit (by unfold maxLen; omega) h0)
  · -- 21
    obtain ⟨x, rfl⟩ := one_of (many_one 21 _ hm (by decide))
    obtain rfl : v = fnV 191 := h
    refine .inl ⟨_, rfl, enters_of Tryz.func191 (by kernel_rfl) rfl, ?_⟩
    have ha : allK ks 2 = true := by
      cases ha : allK ks 2 with
      | true => rfl
      | false => simp [combE, ha] at hc
    have hx0 : ¬ x.k = 0 := by
      have := hn rfl
      simpa using this
    have hx2 : x.k = 0 ∨ x.k = 2 := by
      have := fitB_iff.1 (fits_one hf ha (List.mem_singleton.2 rfl))
      rcases this with h | h
      · exact .inr h
      · exact .inl h.2
    have ho : opV (21 : Nat) [x] = truV (x.isE false) := notV_isE (hok x (by simp)) hx0 hx2
    rw [ho]
    exact not1_any A c x w hr
  · -- 22
    obtain ⟨x, rfl⟩ := one_of (many_one 22 _ hm (by decide))
    obtain rfl : v = fnV 192 := h
    refine .inl ⟨_, rfl, enters_of Tryz.func192 (by kernel_rfl) rfl, ?_⟩
    exact isnull1_any A c x w hr
  · -- 23
    obtain ⟨x, rfl⟩ := one_of (many_one 23 _ hm (by decide))
    obtain rfl : v = fnV 193 := h
    refine .inl ⟨_, rfl, enters_of Tryz.func193 (by kernel_rfl) rfl, ?_⟩
    exact istrue1_any A c x w hr
  · -- 24
    obtain rfl : v = fnV 194 := h
    refine .inl ⟨_, rfl, enters_of Tryz.func194 (by kernel_rfl) rfl, ?_⟩
    have hodd : l.length % 2 = 1 := by
      simp [manyB] at hm
      have := hm.1.2
      rw [Int.tmod_eq_emod_of_nonneg (by omega)] at this
      omega
    exact chosen_any A c l w hr hodd (by omega)
  · -- 25
    obtain rfl : v = fnV 195 := h
    refine .inl ⟨_, rfl, enters_of Tryz.func195 (by kernel_rfl) rfl, ?_⟩
    exact firstOf_any A c l w hr (by omega)
end Go.Proofs.YtdiehgfldndgbaaGreatDoor
namespace Go.Proofs.YtdiehgfldndgbaaGreatDoor
open Go.RowKit Go.Deep

/-- the operation of a node with arguments -/
def opE (e : E) : List Nat := if e.args.length = 0 then [] else [e.op.toNat]
theorem opsE_op (e : E) : opsE e = opE e ++ opsL e.args := opsE_of e
set_option maxHeartbeats 4000000 in
set_option maxRecDepth 100000 in
theorem ops1_any (e : E) (A R : Option Addr) (c d : Nat) (bx b n : Nat) (S : List Nat) (w : World) (hX : Blk w bx 122 #[.map (some b)]) (hg : Good w b n S) (hn : n < 1000000) (hop : e.args.length = 0 ∨ (4 ≤ e.op ∧ e.op ≤ 25)) (hl : e.args.length ≤ 1000) :
    Calls Tryz.prog 122 #[e.val A c R d, .pointer (some ⟨bx, 0, none⟩)] w fun x w' => x = .returned (.tuple #[]) ∧ But b w w' ∧ Good w' b (n + 1) (S ++ (opE e)) := by
  unfold E.val
  by_cases h0 : e.args.length = 0
  · have HG : Hid (Good w b (n + 1) (S ++ (opE e))) := Lib.hid (by
      rw [show opE e = [] from if_pos h0, List.append_nil]
      obtain ⟨F, ⟨D, h1, h2⟩, h3⟩ := hg
      exact ⟨F, ⟨D, h1.mono (by omega), h2⟩, h3⟩)
    have hlt : ¬ ((0 : Int) < (e.args.length : Int)) := by omega
    have hlt2 : ¬ (0 < e.args.length) := by omega
    clear hX hg hop h0
    go_enter Tryz.func122, Tryz.ntmps122
    go_wp2_with fail
    first | go_end0 | skip
    exact ⟨rfl, But.of (al (Below.refl _ _) _), HG.out.below (al (Below.refl _ _) _)⟩
  · obtain ⟨m, hm⟩ : ∃ m : Nat, e.op = m := ⟨e.op.toNat, by omega⟩
    have h4 : 4 ≤ m := by omega
    have h25 : m ≤ 25 := by omega
    have HS : Hid (opE e = [m]) := Lib.hid (by show opE e = [m]; unfold opE; rw [if_neg h0, hm]; rfl)
    have hlt : ((0 : Int) < (e.args.length : Int)) := by omega
    have hlt2 : (0 < e.args.length) := by omega
    rw [hm]
    have HX : Hid (Blk (w.alloc (.cells #[.int .i64 (m : Nat), .int .i64 e.n, .int .i64 e.m, .int .i64 e.kind, .int .i64 e.lit.k, .int .i64 e.lit.n, .string e.lit.s, .slice A e.args.length c, .slice R e.rels.length d] 30)) bx 122 #[.map (some b)] ∧ Blk (w.alloc (.cells #[.int .i64 (m : Nat), .int .i64 e.n, .int .i64 e.m, .int .i64 e.kind, .int .i64 e.lit.k, .int .i64 e.lit.n, .string e.lit.s, .slice A e.args.length c, .slice R e.rels.length d] 30)) w.heap.size 30 #[.int .i64 (m : Nat), .int .i64 e.n, .int .i64 e.m, .int .i64 e.kind, .int .i64 e.lit.k, .int .i64 e.lit.n, .string e.lit.s, .slice A e.args.length c, .slice R e.rels.length d]) := Lib.hid ⟨hX.alloc _, Blk.new _ _ _⟩
    obtain ⟨F, hF1, hF2⟩ := hg
    have HF := Lib.hid (And.intro hF1 hF2)
    clear hX hop h0 hF1 hF2
    go_enter Tryz.func122, Tryz.ntmps122
    go_upto_region 2 with fail
    refine wp_region_grow (W := (w.alloc (.cells #[.int .i64 (m : Nat), .int .i64 e.n, .int .i64 e.m, .int .i64 e.kind, .int .i64 e.lit.k, .int .i64 e.lit.n, .string e.lit.s, .slice A e.args.length c, .slice R e.rels.length d] 30))) 6 [[], [], [1], [], [3], [4]] [] (fun i u w' => match i with | 0 => u = .map (some b) | 1 => u = .pointer (some ⟨w.heap.size, 0, none⟩) | 2 => u = .int .i64 (m : Nat) | 3 => u = .pointer (some ⟨w.heap.size, 0, none⟩) | 4 => u = .int .i64 (m : Nat) | _ => OpFn w' m u) (by kernel_rfl) (by kernel_rfl) ?hD ⟨?o0, ?o1, ?o2, ?o3, ?o4, ?o5, trivial⟩ ?fin
    case hD =>
      intro i u w1 w2 hb hd
      split at hd <;> first | exact hd | exact OpFn.below hd hb
    case o0 =>
      refine growOne_of (pre := []) rfl ?_
      simp only [fillL, Act.put]
      intro f w' hb hp
      have k0 := (hb.cell (p := ⟨bx, 0, none⟩) HX.out.1.lt).trans (HX.out.1.cell 0)
      simp only [List.getElem?_toArray, List.getElem?_cons_zero] at k0
      clear hp
      clear hb
      go_wp2_with fail
      exact ⟨Below.refl _ _, rfl, fun h => by simp at h⟩
    case o1 =>
      refine growOne_of (pre := []) rfl ?_
      simp only [fillL, Act.put]
      intro f w' hb hp
      clear hp
      clear hb
      go_wp2_with fail
      exact ⟨Below.refl _ _, rfl, fun h => by simp at h⟩
    case o2 =>
      refine growOne_of (pre := [1]) rfl ?_
      simp only [fillL, Region.dstOf, List.getElem?_toArray, List.getElem?_cons_zero, List.getElem?_cons_succ, Option.bind_some, Act.put]
      intro f w' hb hp
      have h1 : f 1 = .pointer (some ⟨w.heap.size, 0, none⟩) := hp 1 (by decide)
      have k0 := (hb.cell (p := ⟨w.heap.size, 0, none⟩) HX.out.2.lt).trans (HX.out.2.cell 0)
      simp only [List.getElem?_toArray, List.getElem?_cons_zero] at k0
      clear hp
      rw [h1]
      clear h1
      clear hb
      go_wp2_with fail
      exact ⟨Below.refl _ _, rfl, fun h => by simp at h⟩
    case o3 =>
      refine growOne_of (pre := []) rfl ?_
      simp only [fillL, Act.put]
      intro f w' hb hp
      clear hp
      clear hb
      go_wp2_with fail
      exact ⟨Below.refl _ _, rfl, fun h => by simp at h⟩
    case o4 =>
      refine growOne_of (pre := [3]) rfl ?_
      simp only [fillL, Region.dstOf, List.getElem?_toArray, List.getElem?_cons_zero, List.getElem?_cons_succ, Option.bind_some, Act.put]
      intro f w' hb hp
      have h3 : f 3 = .pointer (some ⟨w.heap.size, 0, none⟩) := hp 3 (by decide)
      have k0 := (hb.cell (p := ⟨w.heap.size, 0, none⟩) HX.out.2.lt).trans (HX.out.2.cell 0)
      simp only [List.getElem?_toArray, List.getElem?_cons_zero] at k0
      clear hp
      rw [h3]
      clear h3
      clear hb
      go_wp2_with fail
      exact ⟨Below.refl _ _, rfl, fun h => by simp at h⟩
    case o5 =>
      refine growOne_of (pre := [4]) rfl ?_
      simp only [fillL, Region.dstOf, List.getElem?_toArray, List.getElem?_cons_zero, List.getElem?_cons_succ, Option.bind_some, Act.put]
      intro f w' hb hp
      have h4 : f 4 = .int .i64 (m : Nat) := hp 4 (by decide)
      clear hp
      rw [h4]
      clear h4
      clear hb
      go_wp2_with fail
      refine (operationOf_any m _ h4 h25).mono ?_
      rintro u w9 ⟨v, rfl, hv, hb9⟩
      have HO := Lib.hid (And.intro hv hb9)
      clear hv hb9
      go_wp2_with fail
      exact ⟨HO.out.2, HO.out.1, fun h => by simp at h⟩
    case fin =>
      intro f w' hb hd _
      have e0 : f 0 = .map (some b) := hd 0 (by decide)
      have e1 : f 1 = .pointer (some ⟨w.heap.size, 0, none⟩) := hd 1 (by decide)
      have e2 : f 2 = .int .i64 (m : Nat) := hd 2 (by decide)
      have e3 : f 3 = .pointer (some ⟨w.heap.size, 0, none⟩) := hd 3 (by decide)
      have e4 : f 4 = .int .i64 (m : Nat) := hd 4 (by decide)
      have hd5 := hd 5 (by decide)
      clear hd
      rw [show List.range 6 = [0, 1, 2, 3, 4, 5] from rfl]
      simp only [fillL, Region.dstOf, List.getElem?_toArray, List.getElem?_cons_zero, List.getElem?_cons_succ, Option.bind_some, Act.put]
      rw [e0, e1, e2, e3, e4]
      clear e0 e1 e2 e3 e4
      have p5 : OpFn w' m (f 5) := hd5
      obtain ⟨v5, hv5⟩ : ∃ v5, v5 = f 5 := ⟨_, rfl⟩
      rw [← hv5] at p5 ⊢
      clear hv5
      have HBw := Lib.hid (thn (al (Below.refl w.heap.size w) _) hb)
      obtain ⟨D, hD1, hD2⟩ := HF.out.1
      have hown : w'.ownsMap Tryz.prog 24 RV b n D := hD1.kept (row := none) ⟨HBw.out.os, HBw.out.tape, HBw.out.output, HBw.out.size, fun i hi _ => HBw.out.block i hi⟩ (by simp)
      have hml := MapF.isMap ⟨D, hown, hD2⟩
      clear hb
      go_frame
      refine wpList_mapUpdate_own _ rfl (.tmp 7) (.tmp 9) (.tmp 12) 122 rfl 24 170 (Maps.int_keyed Tryz.underlying24) Tryz.underlying122 RV b n D rfl hown (by unfold maxLen; omega) _ _ (.int .i64 (m : Int)) rfl rfl (keyM m (by omega)) (.held v5) [] rfl ?_
      intro w2 hown1 hgrow1
      have HN : Hid (But b w w2 ∧ Good w2 b (n + 1) (S ++ [m])) := by
          have hbut : But b w w2 := (But.of HBw.out).thn hgrow1
          refine ⟨hbut, _, MapF.put hown hD2 hown1, fun q hq => ?_⟩
          by_cases e : (q : Int) = m
          · have : q = m := by omega
            subst this
            simp only [if_pos]
            exact p5.but hgrow1 hml
          · simp only [if_neg e]
            rw [List.mem_append] at hq
            rcases hq with hq | hq
            · exact ((HF.out.2 q hq).below HBw.out).but hgrow1 hml
            · rw [List.mem_singleton] at hq; subst hq; exact absurd rfl e
      clear hown hown1 hgrow1 hml p5
      go_wp2_with fail
      first | go_end0 | skip
      exact ⟨rfl, HN.out.1, by rw [HS.out]; exact HN.out.2⟩
set_option maxHeartbeats 4000000 in
set_option maxRecDepth 100000 in
theorem throughO_any : ∀ (k q : Nat) (e : E) (A R : Option Addr) (c d : Nat) (bx b n : Nat) (S : List Nat) (w : World), nodesE e < k → k ≤ 1000000 → n + nodesE e < 1000000 → shapedE q e = true → LOk w (No w.heap.size b) A e.args → Blk w bx 122 #[.map (some b)] → Good w b n S →
    Calls Tryz.prog 89 #[e.val A c R d, .func (.func 122) #[] #[.pointer (some ⟨bx, 0, none⟩)]] w fun x w' => x = .returned (.tuple #[]) ∧ But b w w' ∧ Good w' b (n + nodesE e) (S ++ opsE e) := by
  intro k
  induction k with
  | zero => intro q e A R c d bx b n S w h; exact absurd h (Nat.not_lt_zero _)
  | succ k ih =>
    intro q e A R c d bx b n S w hk hk1 hnn hsh hA hX hg
    obtain ⟨q, rfl⟩ : ∃ q', q = q' + 1 := by
      cases q with
      | zero => rw [shapedE_zero] at hsh; cases hsh
      | succ q => exact ⟨q, rfl⟩
    rw [shapedE_succ, Bool.and_eq_true] at hsh
    have hop : e.args.length = 0 ∨ (4 ≤ e.op ∧ e.op ≤ 25) := by
      rcases (node_cases hsh.1).2 with ⟨_, _, h⟩ | ⟨_, _, _, h⟩ | ⟨_, _, _, _, h⟩ | ⟨h1, h2, _⟩
      · exact .inl (by rw [h]; rfl)
      · exact .inl (by rw [h]; rfl)
      · exact .inl (by rw [h]; rfl)
      · exact .inr ⟨h1, h2⟩
    have hl16 := node_args hsh.1
    have hnE := nodesE_args e
    have hln := nodesL_len e.args
    have heg := enters_of Tryz.func122 (by kernel_rfl) rfl
    have hbx : bx ≠ b := by
      intro h
      subst h
      obtain ⟨F, hF, _⟩ := hg
      obtain ⟨es, cl, hm⟩ := hF.isMap
      unfold Blk at hX
      rw [hm] at hX; cases hX
    have HA := Lib.hid (And.intro hA (And.intro hX (And.intro hsh hg)))
    have hbl : b < w.heap.size := by obtain ⟨F, hF, _⟩ := hg; exact hF.lt
    have HV : Hid (∀ ob, Calls Tryz.prog 122 #[e.val A c R d, .pointer (some ⟨bx, 0, none⟩)] (w.alloc ob) fun x w' => x = .returned (.tuple #[]) ∧ But b (w.alloc ob) w' ∧ Good w' b (n + 1) (S ++ (opE e))) := Lib.hid fun ob => ops1_any e A R c d bx b n S (w.alloc ob) (hX.alloc _) (hg.below (al (Below.refl _ _) _)) (by omega) hop (by omega)
    have HOp := Lib.hid (opsE_op e)
    have IH := Lib.hid ih
    clear ih hA hX hsh hg hop
    unfold E.val at HV ⊢
    go_enter Tryz.func89, Tryz.ntmps89
    go_wp2_with fail
    refine (HV.out _).mono ?_
    rintro x w1 ⟨rfl, hb1, hg1⟩
    have hbw : But b w w1 := (But.of (al (Below.refl _ _) _)).thn hb1
    have H1 : Hid (But b w w1 ∧ Good w1 b (n + 1) (S ++ (opE e))) := Lib.hid ⟨hbw, hg1⟩
    have y7 : w1.cell? ⟨w.heap.size, 7, none⟩ = some (.slice A e.args.length c) := by
      have hB := (Blk.new w 30 #[.int .i64 e.op, .int .i64 e.n, .int .i64 e.m, .int .i64 e.kind, .int .i64 e.lit.k, .int .i64 e.lit.n, .string e.lit.s, .slice A e.args.length c, .slice R e.rels.length d]).grown hb1 (by intro h; injection h with h; omega)
      exact hB.cell 7
    clear hbw hb1 hg1
    go_wp2_with fail
    clear y7
    go_loopw [12] (fun iv wr => ∃ j : Nat, j ≤ e.args.length ∧ iv = .int .i64 j ∧ Hid (But b w wr ∧ Good wr b (n + 1 + nodesL (e.args.take j)) (S ++ (opE e) ++ opsL (e.args.take j)))) (fun iv _ => e.args.length - (intOf iv).toNat)
    case atStart => exact ⟨0, Nat.zero_le _, rfl, Lib.hid (by simpa [nodesL, opsL] using H1.out)⟩
    case round =>
      obtain ⟨j, hj, rfl, HC⟩ := hrel
      by_cases hlt : j < e.args.length
      · have hlti : (j : Int) < (e.args.length : Int) := by omega
        obtain ⟨bb, o, rfl, hbb, he⟩ := (HA.out.1.but HC.out.1).at_ hlt
        obtain ⟨z0, z1, z2, z3, z4, z5, z6, ⟨A', c', z7, z8⟩, R', d', z9, z10⟩ := EOk.mk_.1 he
        have x0 : wr.cell? ⟨bb, o + j * 9, none⟩ = some (.int .i64 e.args[j].op) := z0
        have x1 : wr.cell? ⟨bb, o + j * 9 + 1, none⟩ = some (.int .i64 e.args[j].n) := z1
        have x2 : wr.cell? ⟨bb, o + j * 9 + 2, none⟩ = some (.int .i64 e.args[j].m) := z2
        have x3 : wr.cell? ⟨bb, o + j * 9 + 3, none⟩ = some (.int .i64 e.args[j].kind) := z3
        have x4 : wr.cell? ⟨bb, o + j * 9 + 4, none⟩ = some (.int .i64 e.args[j].lit.k) := z4
        have x5 : wr.cell? ⟨bb, o + j * 9 + 5, none⟩ = some (.int .i64 e.args[j].lit.n) := z5
        have x6 : wr.cell? ⟨bb, o + j * 9 + 6, none⟩ = some (.string e.args[j].lit.s) := z6
        have x7 : wr.cell? ⟨bb, o + j * 9 + 7, none⟩ = some ((.slice A' e.args[j].args.length c')) := z7
        have x8 : wr.cell? ⟨bb, o + j * 9 + 8, none⟩ = some ((.slice R' e.args[j].rels.length d')) := z9
        have hsn := nodesL_snoc (e.args.take j) e.args[j]
        have HTk := Lib.hid (List.take_succ_eq_append_getElem hlt)
        rw [← HTk.out] at hsn
        have hle := nodesL_take e.args (j + 1)
        have HOt := Lib.hid (opsL_take e.args j hlt)
        have hmm := nodesL_mem (List.getElem_mem hlt)
        have HK : Hid (∀ ob, Calls Tryz.prog 89 #[e.args[j].val A' c' R' d', .func (.func 122) #[] #[.pointer (some ⟨bx, 0, none⟩)]] (wr.alloc ob) fun x w' => x = .returned (.tuple #[]) ∧ But b (wr.alloc ob) w' ∧ Good w' b (n + 1 + nodesL (e.args.take (j + 1))) (S ++ (opE e) ++ opsL (e.args.take (j + 1)))) := Lib.hid fun ob => by
          have hbt : But b wr (wr.alloc ob) := World.grownBy_alloc wr ob _
          have h := IH.out q e.args[j] A' R' c' d' bx b (n + 1 + nodesL (e.args.take j)) (S ++ (opE e) ++ opsL (e.args.take j)) (wr.alloc ob) (by omega) (by omega) (by omega) (shapedL_mem HA.out.2.2.1.2 _ (List.getElem_mem hlt)) (z8.but hbt) ((HA.out.2.1.grown HC.out.1 (by intro h; injection h with h; exact hbx h)).alloc _) (HC.out.2.below (al (Below.refl _ _) _))
          rw [hsn, HOt.out, ← List.append_assoc, ← Nat.add_assoc]
          exact h
        clear z0 z1 z2 z3 z4 z5 z6 z7 z8 z9 z10 he hmm hsn hle HOt
        generalize e.args[j] = ej at *
        unfold E.val at HK
        go_wp2_with fail
        refine (HK.out _).mono ?_
        rintro x w3 ⟨rfl, hb3, hg3⟩
        have HN : Hid (But b w w3 ∧ Good w3 b (n + 1 + nodesL (e.args.take (j + 1))) (S ++ (opE e) ++ opsL (e.args.take (j + 1)))) := Lib.hid ⟨(HC.out.1.al _).thn hb3, hg3⟩
        clear hb3 hg3 x0 x1 x2 x3 x4 x5 x6 x7 x8
        go_wp2_with fail
        exact ⟨⟨j + 1, by omega, by go_num, HN⟩, by simp [intOf]; omega⟩
      · have hlf : decide ((j : Int) < (e.args.length : Int)) = false := decide_eq_false (by omega)
        have HN : Hid (But b w wr ∧ Good wr b (n + nodesE e) (S ++ opsE e)) := Lib.hid (by
          have h := HC.out
          rw [List.take_of_length_le (by omega)] at h
          rw [HOp.out, hnE, ← List.append_assoc, ← Nat.add_assoc]
          exact h)
        go_wp2_with fail
        first | go_end0 | skip
        exact ⟨rfl, HN.out.1, HN.out.2⟩
set_option maxHeartbeats 4000000 in
set_option maxRecDepth 100000 in
theorem operations_any (q : Nat) (e : E) (A R : Option Addr) (c d : Nat) (w : World) (hn : nodesE e < 1000000) (hsh : shapedE q e = true) (hA : LOk w (Lo w.heap.size) A e.args) :
    Calls Tryz.prog 78 #[e.val A c R d] w fun x w' => ∃ b n, x = .returned (.map (some b)) ∧ Good w' b n (opsE e) ∧ Below w.heap.size w w' := by
  have hmf : ∀ (fn : Fn) (first cap : Array Value) (w : World), (Instr.makeFunc fn first cap).run Tryz.prog w = .ok (.func fn first cap) w := fun _ _ _ _ => rfl
  have hmm := @run_makeMap Tryz.prog
  have hgood : ∀ w1 : World, Good (w1.alloc (.map #[] 0)) w1.heap.size 0 [] := fun w1 => ⟨fun _ => .nilFunc, ⟨.map [], World.ownsMap_made _ _ _ _, fun op => by simp [DataW.atKey]⟩, fun m hm => by cases hm⟩
  have HT : Hid (∀ (bx b : Nat) (w1 : World), Below w.heap.size w w1 → w.heap.size ≤ b → Blk w1 bx 122 #[.map (some b)] → Good w1 b 0 [] → Calls Tryz.prog 89 #[e.val A c R d, .func (.func 122) #[] #[.pointer (some ⟨bx, 0, none⟩)]] w1 fun x w' => x = .returned (.tuple #[]) ∧ But b w1 w' ∧ Good w' b (0 + nodesE e) ([] ++ opsE e)) := Lib.hid fun bx b w1 hb hbb hX hg =>
    throughO_any 1000000 q e A R c d bx b 0 [] w1 hn (Nat.le_refl _) (by omega) hsh (hA.no hb hbb) hX hg
  have HG := Lib.hid hgood
  clear hgood hA hsh
  unfold E.val at HT ⊢
  go_enter Tryz.func78, Tryz.ntmps78
  go_wp2_with fail
  have hb0 := fun (o1 o2 o3 : Obj) => al (al (al (Below.refl w.heap.size w) o1) o2) o3
  refine (HT.out (w.heap.size + 1 + 1) (w.heap.size + 1) _ (hb0 _ _ _) (by omega) (Blk.new' (by simp)) ?_).mono ?_
  · have := HG.out (w.alloc (.cells #[.int .i64 e.op, .int .i64 e.n, .int .i64 e.m, .int .i64 e.kind, .int .i64 e.lit.k, .int .i64 e.lit.n, .string e.lit.s, .slice A e.args.length c, .slice R e.rels.length d] 30))
    simp only [World.size_alloc] at this
    exact this.below (al (Below.refl _ _) _)
  rintro x w1 ⟨rfl, hb1, hg1⟩
  have H1 : Hid (Below w.heap.size w w1 ∧ Good w1 (w.heap.size + 1) (0 + nodesE e) (opsE e)) := Lib.hid ⟨(hb0 _ _ _).grown hb1 (by simp <;> omega) (fun g hg => by injection hg with hg; omega), hg1⟩
  have y0 : w1.cell? ⟨w.heap.size + 1 + 1, 0, none⟩ = some (.map (some (w.heap.size + 1))) := by
    have hB : Blk (((w.alloc (.cells #[.int .i64 e.op, .int .i64 e.n, .int .i64 e.m, .int .i64 e.kind, .int .i64 e.lit.k, .int .i64 e.lit.n, .string e.lit.s, .slice A e.args.length c, .slice R e.rels.length d] 30)).alloc (.map #[] 0)).alloc (.cells #[.map (some (w.heap.size + 1))] 122)) (w.heap.size + 1 + 1) 122 #[.map (some (w.heap.size + 1))] := Blk.new' (by simp)
    exact (hB.grown hb1 (by intro h; injection h with h; omega)).cell 0
  clear hb1 hg1 hb0
  go_wp2_with fail
  go_ret
  exact ⟨_, _, rfl, H1.out.2, H1.out.1⟩
end Go.Proofs.YtdiehgfldndgbaaGreatDoor
namespace Go.Proofs.YtdiehgfldndgbaaGreatDoor
open Go.RowKit Go.Deep

theorem opV_null (m : Nat) (h4 : 4 ≤ m) (l : List V) (hs : strB2 m = true) (hm : manyB m l.length = true) (hok : ∀ v ∈ l, v.ok = true) (hn : (l.any fun v => v.k == 0) = true) : opV m l = zV := by
  by_cases h17 : m ≤ 17
  · unfold opV
    rw [if_neg (by omega), if_neg (by omega), if_neg (by omega), if_neg (by omega), if_neg (by omega), if_neg (by omega), if_neg (by omega), if_neg (by omega), hn]
    rfl
  · have h21 : m = 21 := by
      unfold strB2 at hs
      simp at hs
      omega
    subst h21
    obtain ⟨x, rfl⟩ := one_of (many_one 21 _ hm (by decide))
    have hx0 : x.k = 0 := by simpa using hn
    show notV x = zV
    unfold notV
    rw [if_pos hx0]
    exact null_of_ok (hok x (by simp)) hx0
set_option maxHeartbeats 2000000 in
set_option maxRecDepth 100000 in
theorem eval1_in (e : E) (A R : Option Addr) (c d : Nat) (Ar : Option Addr) (rn cr b : Nat) (g4 g5 : Nat) (v : V) (w : World) (hB4 : Blk w g4 73 #[.slice Ar rn cr]) (hB5 : Blk w g5 122 #[.map (some b)])
    (hE : ∀ w1, Below w.heap.size w w1 → Calls Tryz.prog 77 #[e.val A c R d, .slice Ar rn cr, .map (some b)] w1 fun x w' => x = .returned (.agg #[.int .i64 v.k, .int .i64 v.n, .string v.s]) ∧ Below w1.heap.size w1 w') :
    Calls Tryz.prog 119 #[e.val A c R d, .pointer (some ⟨g4, 0, none⟩), .pointer (some ⟨g5, 0, none⟩)] w fun x w' => x = .returned (.agg #[.int .i64 v.k, .int .i64 v.n, .string v.s]) ∧ Below w.heap.size w w' := by
  have c4 := hB4.cell 0
  have c5 := hB5.cell 0
  have l4 := hB4.lt
  have l5 := hB5.lt
  simp only [List.getElem?_toArray, List.getElem?_cons_zero] at c4 c5
  have HE := Lib.hid hE
  clear hB4 hB5 hE
  unfold E.val at HE ⊢
  have hb0 := fun (o1 o2 : Obj) => al (al (Below.refl w.heap.size w) o1) o2
  go_enter Tryz.func119, Tryz.ntmps119
  go_wp2_with fail
  refine (HE.out _ (hb0 _ _)).mono ?_
  rintro x w2 ⟨rfl, hb2⟩
  have hBn : Blk ((w.alloc (.cells #[.int .i64 e.op, .int .i64 e.n, .int .i64 e.m, .int .i64 e.kind, .int .i64 e.lit.k, .int .i64 e.lit.n, .string e.lit.s, .slice A e.args.length c, .slice R e.rels.length d] 30)).alloc (.cells #[.int .i64 0, .int .i64 0, .string ⟨#[]⟩] 27)) (w.heap.size + 1) 27 #[.int .i64 0, .int .i64 0, .string ⟨#[]⟩] := Blk.new' (by simp)
  have H2 := Lib.hid (And.intro (thn (hb0 _ _) hb2) (hBn.below hb2 hBn.lt))
  clear hb2 hBn hb0 c4 c5 l4 l5
  have hBr := H2.out.2
  have hBl := hBr.lt
  have f0 := hBr.frozen 0
  have d0 := hBr.cell 0
  have f1 := hBr.frozen 1
  have d1 := hBr.cell 1
  have f2 := hBr.frozen 2
  have d2 := hBr.cell 2
  simp only [List.getElem?_toArray, List.getElem?_cons_succ, List.getElem?_cons_zero] at d0 d1 d2
  go_wp2_with fail
  have HB := hBr.three_set (.int .i64 v.k) (.int .i64 v.n) (.string v.s)
  obtain ⟨⟨q0, q1, q2⟩, -⟩ := HB.three
  exact bodyPost_ret (v := .agg #[.int .i64 v.k, .int .i64 v.n, .string v.s]) (by simp [results, Tryz.results119, go_sem, q0, q1, q2]) rfl ⟨rfl, st3 H2.out.1 (by omega) _ _ _⟩
set_option maxHeartbeats 8000000 in
set_option maxRecDepth 100000 in
theorem eval_any (row : List V) (cs : List Co) (hrow : fitsL row cs = true) (hrok : ∀ v ∈ row, v.ok = true) (hreal : ∀ k ∈ cs, k.1 ≠ 0) : ∀ (k q : Nat) (e : E) (cc : Co) (A R : Option Addr) (c d : Nat) (Ar : Option Addr) (cr b n : Nat) (w : World), nodesE e < k → k ≤ 1000000 → shapedE q e = true → kindE cs e = some cc → LOk w (Lo w.heap.size) A e.args → VReads w w.heap.size Ar row → row.length ≤ 1000 → Good w b n (opsE e) →
    Calls Tryz.prog 77 #[e.val A c R d, .slice Ar row.length cr, .map (some b)] w fun x w' => x = .returned (.agg #[.int .i64 (evalE row e).k, .int .i64 (evalE row e).n, .string (evalE row e).s]) ∧ Below w.heap.size w w' := by
  intro k
  induction k with
  | zero => intro q e cc A R c d Ar cr b n w h; exact absurd h (Nat.not_lt_zero _)
  | succ k ih =>
    intro q e cc A R c d Ar cr b n w hk hk1 hsh hkind hA hr hrl hg
    obtain ⟨q, rfl⟩ : ∃ q', q = q' + 1 := by
      cases q with
      | zero => rw [shapedE_zero] at hsh; cases hsh
      | succ q => exact ⟨q, rfl⟩
    have HF := Lib.hid (fun x cx (h1 : shapedE q x = true) (h2 : kindE cs x = some cx) => evalE_fits row cs hrow hrok hreal q x cx h1 h2)
    rw [shapedE_succ, Bool.and_eq_true] at hsh
    have HK := Lib.hid (kindE_of cs e)
    have HV := Lib.hid (evalE_of row e)
    have hnE := nodesE_args e
    have hln := nodesL_len e.args
    rcases (node_cases hsh.1).2 with ⟨ho, hn0, hz⟩ | ⟨ho, hn0, hm0, hz⟩ | ⟨ho, hkk, hok, hlk, hz⟩ | ⟨ho4, ho25, hmany⟩
    · obtain ⟨i, hi⟩ : ∃ i : Nat, e.n = i := ⟨e.n.toNat, by omega⟩
      have hki : cs[i]? = some cc := by
        have h := HK.out
        rw [hkind, if_neg (by omega), if_pos ho, if_neg (by omega), hi] at h
        exact h.symm
      have hil : i < row.length := by
        rw [fitsL_len hrow]
        exact (List.getElem?_eq_some_iff.1 hki).1
      have hve : evalE row e = row[i] := by
        rw [HV.out, if_pos ho, hi]
        show (row[i]?).getD zV = row[i]
        rw [List.getElem?_eq_getElem hil]; rfl
      rw [hve]
      obtain ⟨bb, o, rfl, hblk, c0, c1, c2⟩ := hr.at_ hil
      have hili : (i : Int) < (row.length : Int) := by omega
      generalize row[i] = u at *
      unfold E.val
      rw [ho, hi]
      have hb4 : Below w.heap.size w ((((w.alloc (.cells #[.int .i64 1, .int .i64 i, .int .i64 e.m, .int .i64 e.kind, .int .i64 e.lit.k, .int .i64 e.lit.n, .string e.lit.s, .slice A e.args.length c, .slice R e.rels.length d] 30)).alloc (.cells #[.slice (some ⟨bb, o, none⟩) row.length cr] 73)).alloc (.cells #[.map (some b)] 122)).alloc (.cells #[.int .i64 0, .int .i64 0, .string ⟨#[]⟩] 27)) := al (al (al (al (Below.refl _ _) _) _) _) _
      have y0 := (hb4.cell (p := ⟨bb, o + i * 3, none⟩) hblk).trans c0
      have y1 := (hb4.cell (p := ⟨bb, o + i * 3 + 1, none⟩) hblk).trans c1
      have y2 := (hb4.cell (p := ⟨bb, o + i * 3 + 2, none⟩) hblk).trans c2
      clear HK HV hki hve hg hA hkind hsh ih HF hnE hln hz hi hn0 hr hb4 c0 c1 c2
      go_enter Tryz.func77, Tryz.ntmps77
      go_wp2_with fail
      exact bodyPost_ret (v := .agg #[.int .i64 u.k, .int .i64 u.n, .string u.s]) (by simp [results, Tryz.results77, go_sem]) rfl ⟨rfl, al (al (al (al (Below.refl _ _) _) _) _) _⟩
    · have h := HK.out
      rw [hkind, if_pos ho] at h
      cases h
    · have hve : evalE row e = e.lit := by rw [HV.out, if_neg (by omega), if_pos ho]
      rw [hve]
      unfold E.val
      rw [ho]
      clear HK HV hve hg hA hkind hsh ih HF hnE hln hz hr
      go_enter Tryz.func77, Tryz.ntmps77
      go_wp2_with fail
      exact bodyPost_ret (v := .agg #[.int .i64 e.lit.k, .int .i64 e.lit.n, .string e.lit.s]) (by simp [results, Tryz.results77, go_sem]) rfl ⟨rfl, al (al (al (al (Below.refl _ _) _) _) _) _⟩
    · obtain ⟨m, hm⟩ : ∃ m : Nat, e.op = m := ⟨e.op.toNat, by omega⟩
      have h4 : 4 ≤ m := by omega
      have h25 : m ≤ 25 := by omega
      have hlen := many_le hmany
      obtain ⟨ks, hks, hcomb⟩ : ∃ ks, kindL cs e.args = some ks ∧ combE m 0 0 ks = some cc := by
        have h := HK.out
        rw [hkind, if_neg (by omega), if_neg (by omega)] at h
        cases hl : kindL cs e.args with
        | none => rw [hl] at h; cases h
        | some ks =>
          rw [hl] at h
          refine ⟨ks, rfl, ?_⟩
          rw [← combE_any m e.kind e.lit.k ks (by omega), ← hm]
          exact h.symm
      have hve : evalE row e = opV m (e.args.map (evalE row)) := by rw [HV.out, if_neg (by omega), if_neg (by omega), hm]
      have hargs : ∀ (l : List E) (ks : List Co), (∀ x ∈ l, shapedE q x = true) → kindL cs l = some ks → (∀ x ∈ l, ∃ cx, kindE cs x = some cx) ∧ fitsL (l.map (evalE row)) ks = true ∧ (∀ v ∈ l.map (evalE row), v.ok = true) ∧ ∀ k ∈ ks, k.1 ≠ 0 := by
        intro l
        induction l with
        | nil =>
          intro ks _ hks
          simp only [kindL, Option.some.injEq] at hks
          subst hks
          exact ⟨fun x hx => (by cases hx), rfl, fun v hv => (by cases hv), fun k hk => by cases hk⟩
        | cons x l ihl =>
          intro ks hsh hks
          rw [kindL] at hks
          cases hx : kindE cs x with
          | none => rw [hx] at hks; cases hks
          | some cx =>
            rw [hx] at hks
            cases hl2 : kindL cs l with
            | none => simp only [hl2] at hks; cases hks
            | some r =>
              simp only [hl2, Option.some.injEq] at hks
              subst hks
              have h1 := HF.out x cx (hsh x (List.mem_cons_self ..)) hx
              have h2 := ihl r (fun y hy => hsh y (List.mem_cons_of_mem _ hy)) hl2
              refine ⟨?_, ?_, ?_, ?_⟩
              · intro y hy
                rcases List.mem_cons.1 hy with rfl | hy
                · exact ⟨cx, hx⟩
                · exact h2.1 y hy
              · rw [List.map_cons, fitsL, h1.2.1, h2.2.1]; rfl
              · intro v hv
                rcases List.mem_cons.1 hv with rfl | hv
                · exact h1.1
                · exact h2.2.2.1 v hv
              · intro k hk
                rcases List.mem_cons.1 hk with rfl | hk
                · exact h1.2.2
                · exact h2.2.2.2 k hk
      have hall := hargs e.args ks (shapedL_mem hsh.2) hks
      have hmany' : manyB m ((e.args.map (evalE row)).length : Nat) = true := by rw [List.length_map, ← hm]; exact hmany
      have hmem : ∀ x ∈ opsE e, x ∈ opsE e := fun x hx => hx
      have hself : m ∈ opsE e := by
        rw [opsE_of, if_neg (by omega), hm]
        simp
      have hb4 : ∀ (o1 o2 o3 o4 : Obj), Below w.heap.size w ((((w.alloc o1).alloc o2).alloc o3).alloc o4) := fun o1 o2 o3 o4 => al (al (al (al (Below.refl _ _) _) _) _) _
      have hB0 : Blk ((((w.alloc (.cells #[.int .i64 (m : Nat), .int .i64 e.n, .int .i64 e.m, .int .i64 e.kind, .int .i64 e.lit.k, .int .i64 e.lit.n, .string e.lit.s, .slice A e.args.length c, .slice R e.rels.length d] 30)).alloc (.cells #[.slice Ar row.length cr] 73)).alloc (.cells #[.map (some b)] 122)).alloc (.cells #[.int .i64 0, .int .i64 0, .string ⟨#[]⟩] 27)) w.heap.size 30 #[.int .i64 (m : Nat), .int .i64 e.n, .int .i64 e.m, .int .i64 e.kind, .int .i64 e.lit.k, .int .i64 e.lit.n, .string e.lit.s, .slice A e.args.length c, .slice R e.rels.length d] := ((Blk.new w _ _).alloc _ |>.alloc _).alloc _
      have hB1 : Blk ((((w.alloc (.cells #[.int .i64 (m : Nat), .int .i64 e.n, .int .i64 e.m, .int .i64 e.kind, .int .i64 e.lit.k, .int .i64 e.lit.n, .string e.lit.s, .slice A e.args.length c, .slice R e.rels.length d] 30)).alloc (.cells #[.slice Ar row.length cr] 73)).alloc (.cells #[.map (some b)] 122)).alloc (.cells #[.int .i64 0, .int .i64 0, .string ⟨#[]⟩] 27)) (w.heap.size + 1) 73 #[.slice Ar row.length cr] := ((Blk.new' (by simp)).alloc _).alloc _
      have hB2 : Blk ((((w.alloc (.cells #[.int .i64 (m : Nat), .int .i64 e.n, .int .i64 e.m, .int .i64 e.kind, .int .i64 e.lit.k, .int .i64 e.lit.n, .string e.lit.s, .slice A e.args.length c, .slice R e.rels.length d] 30)).alloc (.cells #[.slice Ar row.length cr] 73)).alloc (.cells #[.map (some b)] 122)).alloc (.cells #[.int .i64 0, .int .i64 0, .string ⟨#[]⟩] 27)) (w.heap.size + 1 + 1) 122 #[.map (some b)] := (Blk.new' (by simp)).alloc _
      have hB3 : Blk ((((w.alloc (.cells #[.int .i64 (m : Nat), .int .i64 e.n, .int .i64 e.m, .int .i64 e.kind, .int .i64 e.lit.k, .int .i64 e.lit.n, .string e.lit.s, .slice A e.args.length c, .slice R e.rels.length d] 30)).alloc (.cells #[.slice Ar row.length cr] 73)).alloc (.cells #[.map (some b)] 122)).alloc (.cells #[.int .i64 0, .int .i64 0, .string ⟨#[]⟩] 27)) (w.heap.size + 1 + 1 + 1) 27 #[.int .i64 0, .int .i64 0, .string ⟨#[]⟩] := Blk.new' (by simp)
      have HEc := Lib.hid (eachV_any 119 (.pointer (some ⟨w.heap.size + 1, 0, none⟩)) (.pointer (some ⟨w.heap.size + 1 + 1, 0, none⟩)) (evalE row) e.args A c ((((w.alloc (.cells #[.int .i64 (m : Nat), .int .i64 e.n, .int .i64 e.m, .int .i64 e.kind, .int .i64 e.lit.k, .int .i64 e.lit.n, .string e.lit.s, .slice A e.args.length c, .slice R e.rels.length d] 30)).alloc (.cells #[.slice Ar row.length cr] 73)).alloc (.cells #[.map (some b)] 122)).alloc (.cells #[.int .i64 0, .int .i64 0, .string ⟨#[]⟩] 27)) (by omega) (hA.below (hb4 _ _ _ _) (hb4 _ _ _ _).size) (enters_of Tryz.func119 (by kernel_rfl) rfl) fun x hx A' R' c' d' w1 hb1 hA1 => by
        obtain ⟨cx, hcx⟩ := hall.1 x hx
        have hnx := nodesL_mem hx
        refine eval1_in x A' R' c' d' Ar row.length cr b _ _ (evalE row x) w1 (hB1.below hb1 hB1.lt) (hB2.below hb1 hB2.lt) fun w2 hb2 => ?_
        have hbw := thn (thn (hb4 _ _ _ _) hb1) hb2
        exact ih q x cx A' R' c' d' Ar cr b n w2 (by omega) (by omega) (shapedL_mem hsh.2 x hx) hcx (hA1.below hb2 hb2.size) (hr.below hbw hbw.size) hrl ((hg.below hbw).mono fun y hy => by rw [opsE_of, List.mem_append]; exact .inr (opsL_mem hx y hy)))
      have HBs := Lib.hid (And.intro (hb4 (.cells #[.int .i64 (m : Nat), .int .i64 e.n, .int .i64 e.m, .int .i64 e.kind, .int .i64 e.lit.k, .int .i64 e.lit.n, .string e.lit.s, .slice A e.args.length c, .slice R e.rels.length d] 30) (.cells #[.slice Ar row.length cr] 73) (.cells #[.map (some b)] 122) (.cells #[.int .i64 0, .int .i64 0, .string ⟨#[]⟩] 27)) (And.intro hB0 (And.intro hB2 hB3)))
      have HAll := Lib.hid (And.intro hall (And.intro hmany' (And.intro hcomb (And.intro hself hg))))
      have hmf : ∀ (fn : Fn) (first cap : Array Value) (w : World), (Instr.makeFunc fn first cap).run Tryz.prog w = .ok (.func fn first cap) w := fun _ _ _ _ => rfl
      have HST := Lib.hid (isStrict_any m · h4)
      rw [hve]
      have e1 : ((m : Int) == 1) = false := beq_eq_false_iff_ne.2 (by omega)
      have e3 : ((m : Int) == 3) = false := beq_eq_false_iff_ne.2 (by omega)
      unfold E.val
      rw [hm]
      clear hB0 hB1 hB2 hB3 hb4 hall hmany' hcomb hself hg hA hr hsh ih HF HK HV hve hkind hnE hmem hargs hks hmany
      go_enter Tryz.func77, Tryz.ntmps77
      go_wp2_with fail
      refine HEc.out.mono ?_
      rintro x w5 ⟨g, rfl, hvr, hb5⟩
      have H5 : Hid (Below w.heap.size w w5 ∧ Blk w5 w.heap.size 30 #[.int .i64 (m : Nat), .int .i64 e.n, .int .i64 e.m, .int .i64 e.kind, .int .i64 e.lit.k, .int .i64 e.lit.n, .string e.lit.s, .slice A e.args.length c, .slice R e.rels.length d] ∧ Blk w5 (w.heap.size + 1 + 1) 122 #[.map (some b)] ∧ Blk w5 (w.heap.size + 1 + 1 + 1) 27 #[.int .i64 0, .int .i64 0, .string ⟨#[]⟩] ∧ VReads w5 w5.heap.size (some ⟨g, 0, none⟩) (e.args.map (evalE row))) := Lib.hid ⟨thn HBs.out.1 hb5, HBs.out.2.1.below hb5 HBs.out.2.1.lt, HBs.out.2.2.1.below hb5 HBs.out.2.2.1.lt, HBs.out.2.2.2.below hb5 HBs.out.2.2.2.lt, hvr⟩
      have HL : Hid ((e.args.map (evalE row)).length = e.args.length) := Lib.hid (List.length_map ..)
      have y0 := H5.out.2.1.cell 0
      simp only [List.getElem?_toArray, List.getElem?_cons_zero] at y0
      clear hvr hb5 HEc
      go_wp2_with fail
      refine (HST.out _).mono ?_
      rintro x w6 ⟨rfl, rfl⟩
      cases hst : strB2 m with
      | true =>
        have HCF := ContainsFunc_val0 109 (fun v => v.k == 0) (some ⟨g, 0, none⟩) e.args.length (e.args.map (evalE row)) w5 H5.out.2.2.2.2 (by rw [HL.out]; omega) (enters_of Tryz.func109 (by kernel_rfl) rfl) fun w1 _ v _ => isNullV_any v w1
        rw [HL.out] at HCF
        cases han : ((e.args.map (evalE row)).any fun v => v.k == 0) with
        | true =>
          have HR : Hid (opV m (e.args.map (evalE row)) = zV) := Lib.hid (opV_null m h4 _ hst HAll.out.2.1 HAll.out.1.2.2.1 han)
          rw [han] at HCF
          have HCF := Lib.hid HCF
          clear han hst
          go_wp2_with fail
          refine HCF.out.mono ?_
          rintro x w7 ⟨rfl, hb7⟩
          have H7 : Hid (Below w.heap.size w w7 ∧ Blk w7 (w.heap.size + 1 + 1 + 1) 27 #[.int .i64 0, .int .i64 0, .string ⟨#[]⟩]) := Lib.hid ⟨thn H5.out.1 hb7, H5.out.2.2.2.1.below hb7 H5.out.2.2.2.1.lt⟩
          clear hb7 y0
          have hBr := H7.out.2
          have hBl := hBr.lt
          have f0 := hBr.frozen 0
          have d0 := hBr.cell 0
          have f1 := hBr.frozen 1
          have d1 := hBr.cell 1
          have f2 := hBr.frozen 2
          have d2 := hBr.cell 2
          simp only [List.getElem?_toArray, List.getElem?_cons_succ, List.getElem?_cons_zero] at d0 d1 d2
          go_wp2_with fail
          have HB := hBr.three_set (.int .i64 0) (.int .i64 0) (.string ⟨#[]⟩)
          obtain ⟨⟨q0, q1, q2⟩, -⟩ := HB.three
          exact bodyPost_ret (v := .agg #[.int .i64 0, .int .i64 0, .string ⟨#[]⟩]) (by simp [results, Tryz.results77, go_sem, q0, q1, q2]) rfl ⟨by rw [HR.out]; rfl, st3 H7.out.1 (by omega) _ _ _⟩
        | false =>
          rw [han] at HCF
          have HCF := Lib.hid HCF
          go_wp2_with fail
          refine HCF.out.mono ?_
          rintro x w7 ⟨rfl, hb7⟩
          have H7 : Hid (Below w.heap.size w w7 ∧ Blk w7 w.heap.size 30 #[.int .i64 (m : Nat), .int .i64 e.n, .int .i64 e.m, .int .i64 e.kind, .int .i64 e.lit.k, .int .i64 e.lit.n, .string e.lit.s, .slice A e.args.length c, .slice R e.rels.length d] ∧ Blk w7 (w.heap.size + 1 + 1) 122 #[.map (some b)] ∧ Blk w7 (w.heap.size + 1 + 1 + 1) 27 #[.int .i64 0, .int .i64 0, .string ⟨#[]⟩] ∧ VReads w7 w7.heap.size (some ⟨g, 0, none⟩) (e.args.map (evalE row))) := Lib.hid ⟨thn H5.out.1 hb7, H5.out.2.1.below hb7 H5.out.2.1.lt, H5.out.2.2.1.below hb7 H5.out.2.2.1.lt, H5.out.2.2.2.1.below hb7 H5.out.2.2.2.1.lt, H5.out.2.2.2.2.below hb7 hb7.size⟩
          have hn : strB2 m = true → ((e.args.map (evalE row)).any fun v => v.k == 0) = false := fun _ => han
          clear hb7 y0 han hst
          obtain ⟨F, hF1, hF2⟩ := HAll.out.2.2.2.2.below H7.out.1
          have hlk := hF1.lookup m (by omega)
          have hcl := (hF2 m HAll.out.2.2.2.1).call h4 h25 (e.args.map (evalE row)) (some ⟨g, 0, none⟩) e.args.length ks cc H7.out.2.2.2.2 HAll.out.2.1 HAll.out.1.2.1 HAll.out.1.2.2.1 HAll.out.2.2.1 hn
          clear hn hF1 hF2
          unfold OpCall at hcl
          rw [HL.out] at hcl
          generalize hrv : opV m (e.args.map (evalE row)) = rv at *
          have HRv := Lib.hid hrv
          clear hrv
          have y0 := H7.out.2.1.cell 0
          have y5 := H7.out.2.2.1.cell 0
          simp only [List.getElem?_toArray, List.getElem?_cons_zero] at y0 y5
          rcases hcl with ⟨K, hv, heg, hcall⟩ | ⟨K, gc, hv, heg, hcall⟩
          · rw [hv] at hlk
            have HCl := Lib.hid hcall
            clear hv hcall
            go_wp2_with fail
            refine HCl.out.mono ?_
            rintro x w8 ⟨rfl, hb8⟩
            have H8 : Hid (Below w.heap.size w w8 ∧ Blk w8 (w.heap.size + 1 + 1 + 1) 27 #[.int .i64 0, .int .i64 0, .string ⟨#[]⟩]) := Lib.hid ⟨thn H7.out.1 hb8, H7.out.2.2.2.1.below hb8 H7.out.2.2.2.1.lt⟩
            clear hb8 y0 y5 hlk
            unfold V.val
            have hBr := H8.out.2
            have hBl := hBr.lt
            have f0 := hBr.frozen 0
            have d0 := hBr.cell 0
            have f1 := hBr.frozen 1
            have d1 := hBr.cell 1
            have f2 := hBr.frozen 2
            have d2 := hBr.cell 2
            simp only [List.getElem?_toArray, List.getElem?_cons_succ, List.getElem?_cons_zero] at d0 d1 d2
            go_wp2_with fail
            have HB := hBr.three_set (.int .i64 rv.k) (.int .i64 rv.n) (.string rv.s)
            obtain ⟨⟨q0, q1, q2⟩, -⟩ := HB.three
            exact bodyPost_ret (v := .agg #[.int .i64 rv.k, .int .i64 rv.n, .string rv.s]) (by simp [results, Tryz.results77, go_sem, q0, q1, q2]) rfl ⟨by rw [HRv.out], st3 H8.out.1 (by omega) _ _ _⟩
          · rw [hv] at hlk
            have HCl := Lib.hid hcall
            clear hv hcall
            go_wp2_with fail
            refine HCl.out.mono ?_
            rintro x w8 ⟨rfl, hb8⟩
            have H8 : Hid (Below w.heap.size w w8 ∧ Blk w8 (w.heap.size + 1 + 1 + 1) 27 #[.int .i64 0, .int .i64 0, .string ⟨#[]⟩]) := Lib.hid ⟨thn H7.out.1 hb8, H7.out.2.2.2.1.below hb8 H7.out.2.2.2.1.lt⟩
            clear hb8 y0 y5 hlk
            unfold V.val
            have hBr := H8.out.2
            have hBl := hBr.lt
            have f0 := hBr.frozen 0
            have d0 := hBr.cell 0
            have f1 := hBr.frozen 1
            have d1 := hBr.cell 1
            have f2 := hBr.frozen 2
            have d2 := hBr.cell 2
            simp only [List.getElem?_toArray, List.getElem?_cons_succ, List.getElem?_cons_zero] at d0 d1 d2
            go_wp2_with fail
            have HB := hBr.three_set (.int .i64 rv.k) (.int .i64 rv.n) (.string rv.s)
            obtain ⟨⟨q0, q1, q2⟩, -⟩ := HB.three
            exact bodyPost_ret (v := .agg #[.int .i64 rv.k, .int .i64 rv.n, .string rv.s]) (by simp [results, Tryz.results77, go_sem, q0, q1, q2]) rfl ⟨by rw [HRv.out], st3 H8.out.1 (by omega) _ _ _⟩
      | false =>
        have hn : strB2 m = true → ((e.args.map (evalE row)).any fun v => v.k == 0) = false := fun h => by rw [hst] at h; cases h
        obtain ⟨w7, hw7⟩ : ∃ w7, w7 = w5 := ⟨_, rfl⟩
        have H7 : Hid (Below w.heap.size w w7 ∧ Blk w7 w.heap.size 30 #[.int .i64 (m : Nat), .int .i64 e.n, .int .i64 e.m, .int .i64 e.kind, .int .i64 e.lit.k, .int .i64 e.lit.n, .string e.lit.s, .slice A e.args.length c, .slice R e.rels.length d] ∧ Blk w7 (w.heap.size + 1 + 1) 122 #[.map (some b)] ∧ Blk w7 (w.heap.size + 1 + 1 + 1) 27 #[.int .i64 0, .int .i64 0, .string ⟨#[]⟩] ∧ VReads w7 w7.heap.size (some ⟨g, 0, none⟩) (e.args.map (evalE row))) := Lib.hid (by rw [hw7]; exact H5.out)
        rw [← hw7]
        clear y0 hst hw7
        obtain ⟨F, hF1, hF2⟩ := HAll.out.2.2.2.2.below H7.out.1
        have hlk := hF1.lookup m (by omega)
        have hcl := (hF2 m HAll.out.2.2.2.1).call h4 h25 (e.args.map (evalE row)) (some ⟨g, 0, none⟩) e.args.length ks cc H7.out.2.2.2.2 HAll.out.2.1 HAll.out.1.2.1 HAll.out.1.2.2.1 HAll.out.2.2.1 hn
        clear hn hF1 hF2
        unfold OpCall at hcl
        rw [HL.out] at hcl
        generalize hrv : opV m (e.args.map (evalE row)) = rv at *
        have HRv := Lib.hid hrv
        clear hrv
        have y0 := H7.out.2.1.cell 0
        have y5 := H7.out.2.2.1.cell 0
        simp only [List.getElem?_toArray, List.getElem?_cons_zero] at y0 y5
        rcases hcl with ⟨K, hv, heg, hcall⟩ | ⟨K, gc, hv, heg, hcall⟩
        · rw [hv] at hlk
          have HCl := Lib.hid hcall
          clear hv hcall
          go_wp2_with fail
          refine HCl.out.mono ?_
          rintro x w8 ⟨rfl, hb8⟩
          have H8 : Hid (Below w.heap.size w w8 ∧ Blk w8 (w.heap.size + 1 + 1 + 1) 27 #[.int .i64 0, .int .i64 0, .string ⟨#[]⟩]) := Lib.hid ⟨thn H7.out.1 hb8, H7.out.2.2.2.1.below hb8 H7.out.2.2.2.1.lt⟩
          clear hb8 y0 y5 hlk
          unfold V.val
          have hBr := H8.out.2
          have hBl := hBr.lt
          have f0 := hBr.frozen 0
          have d0 := hBr.cell 0
          have f1 := hBr.frozen 1
          have d1 := hBr.cell 1
          have f2 := hBr.frozen 2
          have d2 := hBr.cell 2
          simp only [List.getElem?_toArray, List.getElem?_cons_succ, List.getElem?_cons_zero] at d0 d1 d2
          go_wp2_with fail
          have HB := hBr.three_set (.int .i64 rv.k) (.int .i64 rv.n) (.string rv.s)
          obtain ⟨⟨q0, q1, q2⟩, -⟩ := HB.three
          exact bodyPost_ret (v := .agg #[.int .i64 rv.k, .int .i64 rv.n, .string rv.s]) (by simp [results, Tryz.results77, go_sem, q0, q1, q2]) rfl ⟨by rw [HRv.out], st3 H8.out.1 (by omega) _ _ _⟩
        · rw [hv] at hlk
          have HCl := Lib.hid hcall
          clear hv hcall
          go_wp2_with fail
          refine HCl.out.mono ?_
          rintro x w8 ⟨rfl, hb8⟩
          have H8 : Hid (Below w.heap.size w w8 ∧ Blk w8 (w.heap.size + 1 + 1 + 1) 27 #[.int .i64 0, .int .i64 0, .string ⟨#[]⟩]) := Lib.hid ⟨thn H7.out.1 hb8, H7.out.2.2.2.1.below hb8 H7.out.2.2.2.1.lt⟩
          clear hb8 y0 y5 hlk
          unfold V.val
          have hBr := H8.out.2
          have hBl := hBr.lt
          have f0 := hBr.frozen 0
          have d0 := hBr.cell 0
          have f1 := hBr.frozen 1
          have d1 := hBr.cell 1
          have f2 := hBr.frozen 2
          have d2 := hBr.cell 2
          simp only [List.getElem?_toArray, List.getElem?_cons_succ, List.getElem?_cons_zero] at d0 d1 d2
          go_wp2_with fail
          have HB := hBr.three_set (.int .i64 rv.k) (.int .i64 rv.n) (.string rv.s)
          obtain ⟨⟨q0, q1, q2⟩, -⟩ := HB.three
          exact bodyPost_ret (v := .agg #[.int .i64 rv.k, .int .i64 rv.n, .string rv.s]) (by simp [results, Tryz.results77, go_sem, q0, q1, q2]) rfl ⟨by rw [HRv.out], st3 H8.out.1 (by omega) _ _ _⟩
end Go.Proofs.YtdiehgfldndgbaaGreatDoor
namespace Go.Proofs.YtdiehgfldndgbaaGreatDoor
open Go.RowKit Go.Deep

theorem knd_ok {cs : List Co} {e : E} (h : kndF cs e = 0) : ∃ cc, kndR cs e = some cc ∧ colsE cs = 0 ∧ formE e = true ∧ kindE cs e = some cc := by
  unfold kndF at h
  split at h
  · rename_i h1
    split at h
    · rename_i h2
      cases hk : kindE cs e with
      | none => rw [hk] at h; simp at h
      | some cc => exact ⟨cc, by unfold kndR; rw [if_pos ⟨h1, h2⟩, hk], h1, h2, rfl⟩
    · cases h
  · cases h
theorem knd_bad {cs : List Co} {e : E} (h : kndF cs e ≠ 0) : kndR cs e = none := by
  unfold kndR
  split
  · rename_i h1
    cases hk : kindE cs e with
    | none => rfl
    | some cc =>
      exfalso
      apply h
      unfold kndF
      rw [if_pos h1.1, if_pos h1.2, hk]; rfl
  · rfl
theorem cols_real {cs : List Co} (h : colsE cs = 0) : ∀ k ∈ cs, k.1 ≠ 0 := by
  intro k hk h0
  unfold colsE at h
  split at h
  · cases h
  · split at h
    · cases h
    · rename_i h2
      apply h2
      exact .inr (List.any_eq_true.2 ⟨k, hk, by unfold okC; rw [h0]; rfl⟩)
theorem zip_fits : ∀ {row : List V} {cs : List Co}, row.length = cs.length → (row.zip cs).all (fun p => fitB p.1 p.2) = true → fitsL row cs = true
  | [], [], _, _ => rfl
  | v :: l, k :: ks, hl, h => by
    rw [List.zip_cons_cons, List.all_cons, Bool.and_eq_true] at h
    rw [fitsL, h.1, zip_fits (by simpa using hl) h.2]; rfl
theorem fits_row {cs : List Co} {row : List V} (h : fitsE cs [row] = 0) : fitsL row cs = true ∧ ∀ v ∈ row, v.ok = true := by
  unfold fitsE at h
  split at h
  · cases h
  · split at h
    · rename_i h2; exact absurd h h2
    · rename_i h2
      split at h
      · rename_i h3; exact absurd h h3
      · split at h
        · rename_i h4
          constructor
          · have h5 : eqB cs row = true := by simpa [fitE] using h4
            unfold eqB at h5
            rw [Bool.and_eq_true, decide_eq_true_eq] at h5
            exact zip_fits h5.1 h5.2
          · intro v hv
            cases hok : v.ok with
            | true => rfl
            | false =>
              exfalso
              apply h2
              have hb : ([[row]] : List (List (List V))).any badL = true := by
                simp only [List.any_cons, List.any_nil, Bool.or_false]
                unfold badL
                simp only [List.any_cons, List.any_nil, Bool.or_false]
                exact List.any_eq_true.2 ⟨v, hv, by rw [hok]; rfl⟩
              unfold chkR
              split <;> first | decide | (rw [if_pos hb]; decide)
        · cases h
/-- what Eval gives -/
def evlV (cs : List Co) (row : List V) (e : E) : V := if kndF cs e = 0 ∧ fitsE cs [row] = 0 then evalE row e else zV
def evlF (cs : List Co) (row : List V) (e : E) : Int := if kndF cs e ≠ 0 then kndF cs e else if fitsE cs [row] = 0 then 0 else 20
theorem LReads.one {w : World} {g : Nat} {T : TypeId} {Ar : Option Addr} {cr : Nat} {row : List V} (h : Blk w g T #[.slice Ar row.length cr]) (hp : Plain Ar) (h1 : VReads w w.heap.size Ar row) : LReads w w.heap.size (some ⟨g, 0, none⟩) [row] := fun _ => ⟨g, 0, rfl, h.lt, fun i X hi => by
  match i, hi with
  | 0, hi => simp at hi; subst hi; exact ⟨Ar, cr, h.cell 0, hp, h1⟩
  | i + 1, hi => simp at hi⟩
set_option maxHeartbeats 4000000 in
set_option maxRecDepth 100000 in
theorem EvalP_any (e : E) (A R : Option Addr) (c d : Nat) (cs : List Co) (Ac : Option Addr) (cc : Nat) (row : List V) (Ar : Option Addr) (cr : Nat) (w : World) (hG : GS w) (hE : EHas w e A R) (hC : KReads w w.heap.size Ac cs) (hcl : cs.length ≤ 1000) (hR : VReads w w.heap.size Ar row) (hP : Plain Ar) (hrl : row.length ≤ 1000) (hrf : VFit row) :
    Calls Tryz.prog 37 #[e.val A c R d, .slice Ac cs.length cc, .slice Ar row.length cr] w fun x w' => x = .returned (.tuple #[.agg #[.int .i64 (evlV cs row e).k, .int .i64 (evlV cs row e).n, .string (evlV cs row e).s], .int .i64 (evlF cs row e)]) ∧ Below w.heap.size w w' := by
  have hb0 : Below w.heap.size w ((w.alloc (.cells #[.int .i64 e.op, .int .i64 e.n, .int .i64 e.m, .int .i64 e.kind, .int .i64 e.lit.k, .int .i64 e.lit.n, .string e.lit.s, .slice A e.args.length c, .slice R e.rels.length d] 30)).alloc (.cells #[.int .i64 0, .int .i64 0, .string ⟨#[]⟩] 27)) := al (al (Below.refl _ _) _) _
  have HK := Lib.hid (KindP_any e A R c d cs Ac cc ((w.alloc (.cells #[.int .i64 e.op, .int .i64 e.n, .int .i64 e.m, .int .i64 e.kind, .int .i64 e.lit.k, .int .i64 e.lit.n, .string e.lit.s, .slice A e.args.length c, .slice R e.rels.length d] 30)).alloc (.cells #[.int .i64 0, .int .i64 0, .string ⟨#[]⟩] 27)) (hG.thn hb0) (hE.below hb0) (hC.below hb0 hb0.size) hcl)
  have HRC : Hid (∀ g w1, Blk w1 g 73 #[.slice Ar row.length cr] → Below w.heap.size w w1 → Calls Tryz.prog 76 #[.slice Ac cs.length cc, .slice (some ⟨g, 0, none⟩) 1 1] w1 fun x w' => x = .returned (.int .i64 (fitsE cs [row])) ∧ Below w1.heap.size w1 w') := Lib.hid fun g w1 hB hb =>
    RowsCheck_any Ac (some ⟨g, 0, none⟩) cc 1 cs [row] w1 (hC.below hb hb.size) (LReads.one hB hP (hR.below hb hb.size)) (by omega) ⟨by simp [maxLen], fun r hr => by rw [List.mem_singleton] at hr; subst hr; exact ⟨by unfold maxLen; omega, hrf⟩⟩ (by simp) (fun r hr => by rw [List.mem_singleton] at hr; subst hr; omega)
  have H0 : Hid (Below w.heap.size w ((w.alloc (.cells #[.int .i64 e.op, .int .i64 e.n, .int .i64 e.m, .int .i64 e.kind, .int .i64 e.lit.k, .int .i64 e.lit.n, .string e.lit.s, .slice A e.args.length c, .slice R e.rels.length d] 30)).alloc (.cells #[.int .i64 0, .int .i64 0, .string ⟨#[]⟩] 27)) ∧ Blk ((w.alloc (.cells #[.int .i64 e.op, .int .i64 e.n, .int .i64 e.m, .int .i64 e.kind, .int .i64 e.lit.k, .int .i64 e.lit.n, .string e.lit.s, .slice A e.args.length c, .slice R e.rels.length d] 30)).alloc (.cells #[.int .i64 0, .int .i64 0, .string ⟨#[]⟩] 27)) w.heap.size 30 #[.int .i64 e.op, .int .i64 e.n, .int .i64 e.m, .int .i64 e.kind, .int .i64 e.lit.k, .int .i64 e.lit.n, .string e.lit.s, .slice A e.args.length c, .slice R e.rels.length d] ∧ Blk ((w.alloc (.cells #[.int .i64 e.op, .int .i64 e.n, .int .i64 e.m, .int .i64 e.kind, .int .i64 e.lit.k, .int .i64 e.lit.n, .string e.lit.s, .slice A e.args.length c, .slice R e.rels.length d] 30)).alloc (.cells #[.int .i64 0, .int .i64 0, .string ⟨#[]⟩] 27)) (w.heap.size + 1) 27 #[.int .i64 0, .int .i64 0, .string ⟨#[]⟩]) := Lib.hid ⟨hb0, (Blk.new w _ _).alloc _, Blk.new' (by simp)⟩
  by_cases hz : kndF cs e = 0
  · obtain ⟨kc, hkr, hc0, hf, hke⟩ := knd_ok hz
    rw [hz, hkr] at HK
    obtain ⟨kc1, kc2⟩ := kc
    unfold coV at HK
    by_cases hy : fitsE cs [row] = 0
    · have HR : Hid (evlV cs row e = evalE row e ∧ evlF cs row e = 0) := Lib.hid ⟨by unfold evlV; rw [if_pos ⟨hz, hy⟩], by unfold evlF; rw [if_neg (by omega), if_pos hy]⟩
      have hfr := fits_row hy
      have hsf := formE_iff.1 hf
      have HOs : Hid (∀ w1, Below w.heap.size w w1 → Calls Tryz.prog 78 #[e.val A c R d] w1 fun x w' => ∃ b n, x = .returned (.map (some b)) ∧ Good w' b n (opsE e) ∧ Below w1.heap.size w1 w') := Lib.hid fun w1 hb => operations_any 24 e A R c d w1 hE.n hsf.1 (hE.below hb).a
      have HEv : Hid (∀ w1 b n, Below w.heap.size w w1 → Good w1 b n (opsE e) → Calls Tryz.prog 77 #[e.val A c R d, .slice Ar row.length cr, .map (some b)] w1 fun x w' => x = .returned (.agg #[.int .i64 (evalE row e).k, .int .i64 (evalE row e).n, .string (evalE row e).s]) ∧ Below w1.heap.size w1 w') := Lib.hid fun w1 b n hb hg =>
        eval_any row cs hfr.1 hfr.2 (cols_real hc0) 1000000 24 e (kc1, kc2) A R c d Ar cr b n w1 hE.n (Nat.le_refl _) hsf.1 hke (hE.below hb).a (hR.below hb hb.size) hrl hg
      rw [HR.out.1, HR.out.2]
      obtain ⟨ev, hev⟩ : ∃ v, v = evalE row e := ⟨_, rfl⟩
      rw [← hev] at HEv ⊢
      rw [hy] at HRC
      clear hb0 hG hE hC hR hP hrf hz hkr hc0 hf hke hy hfr hsf hev HR
      have HR : Hid (True ∧ True) := Lib.hid ⟨trivial, trivial⟩
      unfold E.val at HK HOs HEv ⊢
      go_enter Tryz.func37, Tryz.ntmps37
      go_wp2_with fail
      refine HK.out.mono ?_
      rintro x w2 ⟨rfl, hb2⟩
      have H2 := Lib.hid (And.intro (thn H0.out.1 hb2) (And.intro (H0.out.2.1.below hb2 H0.out.2.1.lt) (H0.out.2.2.below hb2 H0.out.2.2.lt)))
      clear hb2
      have HC2 := Lib.hid (HRC.out (w2.heap.size + 1) ((w2.alloc (.cells #[.int .i64 kc1, .bool kc2] 77)).alloc (.cells #[.slice Ar row.length cr] 73)) (Blk.new' (by simp)) (al (al H2.out.1 _) _))
      go_wp2_with fail
      refine HC2.out.mono ?_
      rintro x w3 ⟨rfl, hb3⟩
      have H3 : Hid (Below w.heap.size w w3 ∧ Blk w3 w.heap.size 30 #[.int .i64 e.op, .int .i64 e.n, .int .i64 e.m, .int .i64 e.kind, .int .i64 e.lit.k, .int .i64 e.lit.n, .string e.lit.s, .slice A e.args.length c, .slice R e.rels.length d] ∧ Blk w3 (w.heap.size + 1) 27 #[.int .i64 0, .int .i64 0, .string ⟨#[]⟩]) := Lib.hid ⟨thn (al (al H2.out.1 _) _) hb3, ((H2.out.2.1.alloc _).alloc _).below hb3 (by have := H2.out.2.1.lt; simp; omega), ((H2.out.2.2.alloc _).alloc _).below hb3 (by have := H2.out.2.2.lt; simp; omega)⟩
      clear hb3 H2 H0 HK HRC HC2
      go_upto_region 6 with fail
      refine wp_region_grow (W := w3) 5 [[], [], [], [2], [0, 1, 3]] [] (fun i u w' => match i with | 0 => u = .agg #[.int .i64 e.op, .int .i64 e.n, .int .i64 e.m, .int .i64 e.kind, .int .i64 e.lit.k, .int .i64 e.lit.n, .string e.lit.s, .slice A e.args.length c, .slice R e.rels.length d] | 1 => u = .slice Ar row.length cr | 2 => u = .agg #[.int .i64 e.op, .int .i64 e.n, .int .i64 e.m, .int .i64 e.kind, .int .i64 e.lit.k, .int .i64 e.lit.n, .string e.lit.s, .slice A e.args.length c, .slice R e.rels.length d] | 3 => ∃ b n, u = .map (some b) ∧ Good w' b n (opsE e) | _ => u = .agg #[.int .i64 ev.k, .int .i64 ev.n, .string ev.s]) (by kernel_rfl) (by kernel_rfl) ?hD ⟨?o0, ?o1, ?o2, ?o3, ?o4, trivial⟩ ?fin
      case hD =>
        intro i u w1 w2 hb hd
        split at hd <;> first | exact hd | (obtain ⟨b, n, h1, h2⟩ := hd; exact ⟨b, n, h1, h2.below hb⟩)
      case o0 =>
        refine growOne_of (pre := []) rfl ?_
        simp only [fillL, Act.put]
        intro f w' hb hp
        have hq := H3.out.2.1.below hb H3.out.2.1.lt
        have c0 := hq.cell 0
        have c1 := hq.cell 1
        have c2 := hq.cell 2
        have c3 := hq.cell 3
        have c4 := hq.cell 4
        have c5 := hq.cell 5
        have c6 := hq.cell 6
        have c7 := hq.cell 7
        have c8 := hq.cell 8
        simp only [List.getElem?_toArray, List.getElem?_cons_succ, List.getElem?_cons_zero] at c0 c1 c2 c3 c4 c5 c6 c7 c8
        clear hq
        clear hp
        clear hb
        go_wp2_with fail
        exact ⟨Below.refl _ _, rfl, fun h => by simp at h⟩
      case o1 =>
        refine growOne_of (pre := []) rfl ?_
        simp only [fillL, Act.put]
        intro f w' hb hp
        clear hp
        clear hb
        go_wp2_with fail
        exact ⟨Below.refl _ _, rfl, fun h => by simp at h⟩
      case o2 =>
        refine growOne_of (pre := []) rfl ?_
        simp only [fillL, Act.put]
        intro f w' hb hp
        have hq := H3.out.2.1.below hb H3.out.2.1.lt
        have c0 := hq.cell 0
        have c1 := hq.cell 1
        have c2 := hq.cell 2
        have c3 := hq.cell 3
        have c4 := hq.cell 4
        have c5 := hq.cell 5
        have c6 := hq.cell 6
        have c7 := hq.cell 7
        have c8 := hq.cell 8
        simp only [List.getElem?_toArray, List.getElem?_cons_succ, List.getElem?_cons_zero] at c0 c1 c2 c3 c4 c5 c6 c7 c8
        clear hq
        clear hp
        clear hb
        go_wp2_with fail
        exact ⟨Below.refl _ _, rfl, fun h => by simp at h⟩
      case o3 =>
        refine growOne_of (pre := [2]) rfl ?_
        simp only [fillL, Region.dstOf, List.getElem?_toArray, List.getElem?_cons_zero, List.getElem?_cons_succ, Option.bind_some, Act.put]
        intro f w' hb hp
        have h2 : f 2 = .agg #[.int .i64 e.op, .int .i64 e.n, .int .i64 e.m, .int .i64 e.kind, .int .i64 e.lit.k, .int .i64 e.lit.n, .string e.lit.s, .slice A e.args.length c, .slice R e.rels.length d] := hp 2 (by decide)
        clear hp
        rw [h2]
        clear h2
        have hbl := thn H3.out.1 hb
        clear hb
        go_wp2_with fail
        refine (HOs.out w' hbl).mono ?_
        rintro x w9 ⟨b, n, rfl, hg, hb9⟩
        have HO := Lib.hid (And.intro hg hb9)
        clear hg hb9
        go_wp2_with fail
        first | exact ⟨HO.out.2, ⟨_, rfl, _, HO.out.1⟩, fun h => by simp at h⟩ | exact ⟨HO.out.2, ⟨_, _, rfl, HO.out.1⟩, fun h => by simp at h⟩ | exact ⟨HO.out.2, ⟨_, _, HO.out.1, rfl⟩, fun h => by simp at h⟩
      case o4 =>
        refine growOne_of (pre := [0, 1, 3]) rfl ?_
        simp only [fillL, Region.dstOf, List.getElem?_toArray, List.getElem?_cons_zero, List.getElem?_cons_succ, Option.bind_some, Act.put]
        intro f w' hb hp
        have h0 : f 0 = .agg #[.int .i64 e.op, .int .i64 e.n, .int .i64 e.m, .int .i64 e.kind, .int .i64 e.lit.k, .int .i64 e.lit.n, .string e.lit.s, .slice A e.args.length c, .slice R e.rels.length d] := hp 0 (by decide)
        have h1 : f 1 = .slice Ar row.length cr := hp 1 (by decide)
        obtain ⟨b, n, h3, hg⟩ := hp 3 (by decide)
        clear hp
        rw [h0, h1, h3]
        clear h0 h1 h3
        have hbl := thn H3.out.1 hb
        clear hb
        have HO := Lib.hid hg
        clear hg
        go_wp2_with fail
        refine (HEv.out w' b n hbl HO.out).mono ?_
        rintro x w9 ⟨rfl, hb9⟩
        have HO9 := Lib.hid hb9
        clear hb9
        go_wp2_with fail
        exact ⟨HO9.out, rfl, fun h => by simp at h⟩
      case fin =>
        intro f w' hb hd _
        have e0 : f 0 = .agg #[.int .i64 e.op, .int .i64 e.n, .int .i64 e.m, .int .i64 e.kind, .int .i64 e.lit.k, .int .i64 e.lit.n, .string e.lit.s, .slice A e.args.length c, .slice R e.rels.length d] := hd 0 (by decide)
        have e1 : f 1 = .slice Ar row.length cr := hd 1 (by decide)
        have e2 : f 2 = .agg #[.int .i64 e.op, .int .i64 e.n, .int .i64 e.m, .int .i64 e.kind, .int .i64 e.lit.k, .int .i64 e.lit.n, .string e.lit.s, .slice A e.args.length c, .slice R e.rels.length d] := hd 2 (by decide)
        obtain ⟨b, n, e3, hg⟩ := hd 3 (by decide)
        have e4 : f 4 = .agg #[.int .i64 ev.k, .int .i64 ev.n, .string ev.s] := hd 4 (by decide)
        clear hd
        rw [show List.range 5 = [0, 1, 2, 3, 4] from rfl]
        simp only [fillL, Region.dstOf, List.getElem?_toArray, List.getElem?_cons_zero, List.getElem?_cons_succ, Option.bind_some, Act.put]
        rw [e0, e1, e2, e3, e4]
        clear e0 e1 e2 e3 e4
        have H9 : Hid (Below w.heap.size w w' ∧ Blk w' (w.heap.size + 1) 27 #[.int .i64 0, .int .i64 0, .string ⟨#[]⟩]) := Lib.hid ⟨thn H3.out.1 hb, H3.out.2.2.below hb H3.out.2.2.lt⟩
        clear hb hg
        have hBr := H9.out.2
        have f0 := hBr.frozen 0
        have f1 := hBr.frozen 1
        have f2 := hBr.frozen 2
        have d0 := hBr.cell 0
        have d1 := hBr.cell 1
        have d2 := hBr.cell 2
        have hBl := hBr.lt
        simp only [List.getElem?_toArray, List.getElem?_cons_succ, List.getElem?_cons_zero] at d0 d1 d2
        go_frame
        go_wp2_with fail
        have HB := hBr.three_set (.int .i64 ev.k) (.int .i64 ev.n) (.string ev.s)
        obtain ⟨⟨q0, q1, q2⟩, -⟩ := HB.three
        exact bodyPost_ret (v := .tuple #[.agg #[.int .i64 ev.k, .int .i64 ev.n, .string ev.s], .int .i64 0]) (by simp [results, Tryz.results37, go_sem, q0, q1, q2]) rfl ⟨rfl, st3 H9.out.1 (by omega) _ _ _⟩
    · have HR : Hid (evlV cs row e = zV ∧ evlF cs row e = 20) := Lib.hid ⟨by unfold evlV; rw [if_neg (fun h => hy h.2)], by unfold evlF; rw [if_neg (by omega), if_neg hy]⟩
      have hyb : (fitsE cs [row] != 0) = true := bne_iff_ne.2 hy
      generalize fitsE cs [row] = fz at *
      rw [HR.out.1, HR.out.2]
      clear hb0 hG hE hC hR hP hrf hz hkr hc0 hf hke hy HR
      unfold E.val at HK ⊢
      go_enter Tryz.func37, Tryz.ntmps37
      go_wp2_with fail
      refine HK.out.mono ?_
      rintro x w2 ⟨rfl, hb2⟩
      have H2 := Lib.hid (And.intro (thn H0.out.1 hb2) (H0.out.2.2.below hb2 H0.out.2.2.lt))
      clear hb2
      have HC2 := Lib.hid (HRC.out (w2.heap.size + 1) ((w2.alloc (.cells #[.int .i64 kc1, .bool kc2] 77)).alloc (.cells #[.slice Ar row.length cr] 73)) (Blk.new' (by simp)) (al (al H2.out.1 _) _))
      go_wp2_with fail
      refine HC2.out.mono ?_
      rintro x w3 ⟨rfl, hb3⟩
      have H3 : Hid (Below w.heap.size w w3 ∧ Blk w3 (w.heap.size + 1) 27 #[.int .i64 0, .int .i64 0, .string ⟨#[]⟩]) := Lib.hid ⟨thn (al (al H2.out.1 _) _) hb3, ((H2.out.2.alloc _).alloc _).below hb3 (by have := H2.out.2.lt; simp; omega)⟩
      clear hb3 H2 H0 HK HRC HC2
      have hBr := H3.out.2
      have f0 := hBr.frozen 0
      have f1 := hBr.frozen 1
      have f2 := hBr.frozen 2
      have d0 := hBr.cell 0
      have d1 := hBr.cell 1
      have d2 := hBr.cell 2
      have hBl := hBr.lt
      simp only [List.getElem?_toArray, List.getElem?_cons_succ, List.getElem?_cons_zero] at d0 d1 d2
      go_wp2_with fail
      have HB := hBr.three_set (.int .i64 0) (.int .i64 0) (.string ⟨#[]⟩)
      obtain ⟨⟨q0, q1, q2⟩, -⟩ := HB.three
      exact bodyPost_ret (v := .tuple #[.agg #[.int .i64 0, .int .i64 0, .string ⟨#[]⟩], .int .i64 20]) (by simp [results, Tryz.results37, go_sem, q0, q1, q2]) rfl ⟨rfl, st3 H3.out.1 (by omega) _ _ _⟩
  · have HR : Hid (evlV cs row e = zV ∧ evlF cs row e = kndF cs e) := Lib.hid ⟨by unfold evlV; rw [if_neg (fun h => hz h.1)], by unfold evlF; rw [if_pos hz]⟩
    rw [knd_bad hz] at HK
    rw [HR.out.1, HR.out.2]
    have hzb : (kndF cs e != 0) = true := bne_iff_ne.2 hz
    generalize kndF cs e = kz at *
    clear hb0 hG hE hC hR hP hrf hz HR HRC
    unfold coV at HK
    unfold E.val at HK ⊢
    go_enter Tryz.func37, Tryz.ntmps37
    go_wp2_with fail
    refine HK.out.mono ?_
    rintro x w2 ⟨rfl, hb2⟩
    have H2 := Lib.hid (And.intro (thn H0.out.1 hb2) (H0.out.2.2.below hb2 H0.out.2.2.lt))
    clear hb2
    have hBr := H2.out.2
    have f0 := hBr.frozen 0
    have f1 := hBr.frozen 1
    have f2 := hBr.frozen 2
    have d0 := hBr.cell 0
    have d1 := hBr.cell 1
    have d2 := hBr.cell 2
    have hBl := hBr.lt
    simp only [List.getElem?_toArray, List.getElem?_cons_succ, List.getElem?_cons_zero] at d0 d1 d2
    go_wp2_with fail
    have HB := (hBr.three_set (.int .i64 0) (.int .i64 0) (.string ⟨#[]⟩)).alloc (.cells #[.int .i64 0, .bool false] 77)
    obtain ⟨⟨q0, q1, q2⟩, -⟩ := HB.three
    exact bodyPost_ret (v := .tuple #[.agg #[.int .i64 0, .int .i64 0, .string ⟨#[]⟩], .int .i64 kz]) (by simp [results, Tryz.results37, go_sem, q0, q1, q2]) rfl ⟨rfl, al (st3 H2.out.1 (by omega) _ _ _) _⟩
end Go.Proofs.YtdiehgfldndgbaaGreatDoor
