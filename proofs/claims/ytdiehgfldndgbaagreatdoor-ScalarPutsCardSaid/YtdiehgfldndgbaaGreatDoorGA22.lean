/-
  EvM: MATHEMATICS of the values of expressions; they are of the kind that Kind says.
  Idx: CONTRACTS over values: Index, ContainsFunc; scalar.isStrict.
-/
import Derived.Test.YtdiehgfldndgbaaGreatDoorGA17
import Derived.Test.YtdiehgfldndgbaaGreatDoorKof
import Derived.Test.YtdiehgfldndgbaaGreatDoorGA03
import Derived.Test.YtdiehgfldndgbaaGreatDoorGA13
import Derived.Test.YtdiehgfldndgbaaGreatDoorEcV
import Derived.Test.YtdiehgfldndgbaaGreatDoorGA05
import Derived.Test.YtdiehgfldndgbaaGreatDoorAft
namespace Go.Proofs.YtdiehgfldndgbaaGreatDoor
open Go.RowKit
/-- a truth, a number, a text as a value -/
def truV (b : Bool) : V := ⟨2, b2i b, ⟨#[]⟩⟩
def numX (n : Int) : V := ⟨1, n, ⟨#[]⟩⟩
def txtV (s : ByteArray) : V := ⟨3, 0, s.extract 0 (min s.size 200)⟩
/-- the value of a case -/
def caseV : List V → V
  | c :: v :: l => if c.isE true then v else caseV l
  | l => l.headD zV
/-- the first one that is not null -/
def coalV : List V → V
  | v :: l => if v.k = 0 then coalV l else v
  | [] => zV
/-- a quotient, cut towards 0, or what is left; null: by 0 -/
def divV (op x y : Int) : V := if y = 0 then zV else if op = 7 then numX (wrap64 (x.tdiv y)) else numX (x.tmod y)
/-- an operation of values that are not null -/
def strictV (op : Int) (x y : V) : V :=
  if op = 4 then numX (wrap64 (x.n + y.n)) else if op = 5 then numX (wrap64 (x.n - y.n)) else if op = 6 then numX (wrap64 (x.n * y.n))
  else if op = 7 ∨ op = 8 then divV op x.n y.n
  else if op = 9 then numX (wrap64 (-x.n))
  else if op = 10 then txtV (x.s ++ y.s)
  else if op = 11 then numX x.s.size
  else if op = 12 then truV (cmpV x.k x.n x.s y.k y.n y.s == 0) else if op = 13 then truV (cmpV x.k x.n x.s y.k y.n y.s != 0)
  else if op = 14 then truV (decide (cmpV x.k x.n x.s y.k y.n y.s < 0)) else if op = 15 then truV (decide (cmpV x.k x.n x.s y.k y.n y.s ≤ 0))
  else if op = 16 then truV (decide (0 < cmpV x.k x.n x.s y.k y.n y.s)) else truV (decide (0 ≤ cmpV x.k x.n x.s y.k y.n y.s))
/-- what an operation with arguments gives -/
def opV (op : Int) (l : List V) : V :=
  if op = 18 then truV (veq (l.headD zV).k (l.headD zV).n (l.headD zV).s (l.tail.headD zV).k (l.tail.headD zV).n (l.tail.headD zV).s)
  else if op = 19 then joinV false l else if op = 20 then joinV true l else if op = 21 then notV (l.headD zV)
  else if op = 22 then truV ((l.headD zV).k == 0) else if op = 23 then truV ((l.headD zV).isE true)
  else if op = 24 then caseV l else if op = 25 then coalV l
  else if l.any (fun v => v.k == 0) then zV else strictV op (l.headD zV) (l.getLast?.getD zV)
theorem truV_ok (b : Bool) : (truV b).ok = true := by cases b <;> rfl
theorem txtV_ok {a b : ByteArray} (ha : okText a.data.toList = true) (hb : okText b.data.toList = true) : (txtV (a ++ b)).ok = true := by
  unfold okText okBytes at ha hb
  simp only [Bool.and_eq_true, List.all_eq_true, decide_eq_true_eq] at ha hb
  show okVal 3 0 ((a ++ b).extract 0 (min (a ++ b).size 200)).data.toList = true
  have h : okText ((a ++ b).extract 0 (min (a ++ b).size 200)).data.toList = true := by
    unfold okText okBytes
    simp only [Bool.and_eq_true, List.all_eq_true, decide_eq_true_eq]
    refine ⟨?_, fun c hc => ?_⟩
    · simp; omega
    · have hm : c ∈ a.data.toList ∨ c ∈ b.data.toList := by
        simp only [ByteArray.data_extract, ByteArray.data_append, Array.toList_extract] at hc
        rw [← List.mem_append]
        simp at hc
        exact List.mem_of_mem_take hc
      rcases hm with hm | hm
      · exact ha.2 c hm
      · exact hb.2 c hm
  unfold okVal
  rw [if_neg (by decide), if_neg (by decide), if_neg (by decide), if_pos rfl, h]; rfl
/-- values fit columns, one by one -/
def fitsL : List V → List Co → Bool
  | v :: l, k :: ks => fitB v k && fitsL l ks
  | [], [] => true
  | _, _ => false
theorem fitsL_len : ∀ {l : List V} {ks : List Co}, fitsL l ks = true → l.length = ks.length
  | [], [], _ => rfl
  | v :: l, k :: ks, h => by
    rw [fitsL, Bool.and_eq_true] at h
    rw [List.length_cons, List.length_cons, fitsL_len h.2]
theorem fitB_iff {v : V} {q : Co} : fitB v q = true ↔ v.k = q.1 ∨ (q.2 = true ∧ v.k = 0) := by
  unfold fitB
  simp only [Bool.or_eq_true, beq_iff_eq, Bool.and_eq_true]
theorem fits_null : ∀ {l : List V} {ks : List Co} {K : Int}, fitsL l ks = true → allK ks K = true → K ≠ 0 → (l.any fun v => v.k == 0) = true → anyN ks = true
  | [], [], _, _, _, _, h => by simp at h
  | v :: l, k :: ks, K, h, hk, h0, hn => by
    rw [fitsL, Bool.and_eq_true] at h
    unfold allK at hk
    rw [List.all_cons, Bool.and_eq_true] at hk
    unfold anyN
    rw [List.any_cons, Bool.or_eq_true] at hn ⊢
    rcases hn with hn | hn
    · have hv : v.k = 0 := by simpa using hn
      rcases fitB_iff.1 h.1 with e | e
      · have : k.1 = K := by simpa using hk.1
        omega
      · exact .inl e.1
    · exact .inr (fits_null h.2 hk.2 h0 hn)
theorem fits_kind : ∀ {l : List V} {ks : List Co} {K : Int}, fitsL l ks = true → allK ks K = true → (l.any fun v => v.k == 0) = false → ∀ v ∈ l, v.k = K
  | v :: l, k :: ks, K, h, hk, hn, x, hx => by
    rw [fitsL, Bool.and_eq_true] at h
    unfold allK at hk
    rw [List.all_cons, Bool.and_eq_true] at hk
    rw [List.any_cons, Bool.or_eq_false_iff] at hn
    rcases List.mem_cons.1 hx with rfl | hx
    · have hv : ¬ x.k = 0 := by simpa using hn.1
      rcases fitB_iff.1 h.1 with e | e
      · have : k.1 = K := by simpa using hk.1
        omega
      · exact absurd e.2 hv
    · exact fits_kind h.2 hk.2 hn.2 x hx
theorem okVal_text {v : V} (h : v.ok = true) (hk : v.k = 3) : okText v.s.data.toList = true := by
  obtain ⟨k, n, s⟩ := v
  simp only at hk
  subst hk
  change okVal 3 n s.data.toList = true at h
  unfold okVal at h
  rw [if_neg (by decide), if_neg (by decide), if_neg (by decide), if_pos rfl, Bool.and_eq_true] at h
  exact h.2
theorem fits_vals : ∀ {l : List V} {ks : List Co}, fitsL l ks = true → fitsL (vals l) (vals ks) = true
  | [], [], _ => rfl
  | [v], [k], h => by simpa [vals] using h
  | v :: u :: l, k :: q :: ks, h => by
    rw [fitsL, fitsL, Bool.and_eq_true, Bool.and_eq_true] at h
    rw [vals, vals, fitsL, h.2.1, fits_vals h.2.2]; rfl
  | [_], _ :: _ :: _, h => by simp [fitsL] at h
  | _ :: _ :: _, [_], h => by simp [fitsL] at h
theorem fits_one : ∀ {l : List V} {ks : List Co} {K : Int} {v : V}, fitsL l ks = true → allK ks K = true → v ∈ l → fitB v (K, anyN ks) = true
  | v :: l, k :: ks, K, x, h, hk, hx => by
    rw [fitsL, Bool.and_eq_true] at h
    unfold allK at hk
    rw [List.all_cons, Bool.and_eq_true] at hk
    rcases List.mem_cons.1 hx with rfl | hx
    · rw [fitB_iff]
      rcases fitB_iff.1 h.1 with e | e
      · have : k.1 = K := by simpa using hk.1
        exact .inl (by show x.k = K; omega)
      · exact .inr ⟨by show anyN (k :: ks) = true; unfold anyN; rw [List.any_cons, e.1]; rfl, e.2⟩
    · have := fits_one h.2 hk.2 hx
      rw [fitB_iff] at this ⊢
      rcases this with e | e
      · exact .inl e
      · refine .inr ⟨?_, e.2⟩
        show anyN (k :: ks) = true
        unfold anyN
        rw [List.any_cons]
        have e1 : ks.any Prod.snd = true := e.1
        rw [e1, Bool.or_true]
theorem caseV_mem : ∀ {l : List V}, 0 < l.length → l.length % 2 = 1 → caseV l ∈ vals l
  | [v], _, _ => by simp [caseV, vals]
  | v :: u :: l, _, h2 => by
    rw [caseV, vals]
    split
    · exact List.mem_cons_self ..
    · refine List.mem_cons_of_mem _ (caseV_mem ?_ ?_)
      · simp only [List.length_cons] at h2; omega
      · simp only [List.length_cons] at h2; omega
theorem coalV_fits : ∀ {l : List V} {ks : List Co} {K : Int}, fitsL l ks = true → allK ks K = true → K ≠ 0 → (∀ v ∈ l, v.ok = true) → (coalV l).ok = true ∧ fitB (coalV l) (K, ks.all Prod.snd) = true
  | [], [], K, _, _, _, _ => ⟨rfl, by simp [coalV, fitB, zV]⟩
  | v :: l, k :: ks, K, h, hk, h0, hok => by
    rw [fitsL, Bool.and_eq_true] at h
    unfold allK at hk
    rw [List.all_cons, Bool.and_eq_true] at hk
    have hkK : k.1 = K := by simpa using hk.1
    rw [coalV]
    split
    · rename_i hv
      have ih := coalV_fits h.2 hk.2 h0 fun x hx => hok x (List.mem_cons_of_mem _ hx)
      refine ⟨ih.1, ?_⟩
      have e := ih.2
      rw [fitB_iff] at e ⊢
      rcases e with e | e
      · exact .inl e
      · refine .inr ⟨?_, e.2⟩
        have e1 : ks.all Prod.snd = true := e.1
        show (k :: ks).all Prod.snd = true
        rw [List.all_cons, e1, Bool.and_true]
        rcases fitB_iff.1 h.1 with e2 | e2
        · omega
        · exact e2.1
    · rename_i hv
      refine ⟨hok v (List.mem_cons_self ..), ?_⟩
      rw [fitB_iff]
      rcases fitB_iff.1 h.1 with e2 | e2
      · exact .inl (by show v.k = K; omega)
      · exact absurd e2.2 hv
theorem joinV_fits (x : Bool) {l : List V} {ks : List Co} (h : fitsL l ks = true) (hk : allK ks 2 = true) : (joinV x l).ok = true ∧ fitB (joinV x l) (2, anyN ks) = true := by
  unfold joinV
  split
  · exact ⟨truV_ok x, by simp [fitB]⟩
  · split
    · rename_i hn
      exact ⟨rfl, by rw [fits_null h hk (by decide) hn]; rfl⟩
    · exact ⟨truV_ok (!x), by simp [fitB]⟩
theorem head_mem {l : List V} (h : 0 < l.length) : l.headD zV ∈ l ∧ l.getLast?.getD zV ∈ l := by
  cases l with
  | nil => cases h
  | cons v l => exact ⟨List.mem_cons_self .., by rw [List.getLast?_eq_some_getLast (by simp)]; exact List.getLast_mem _⟩
/-- what an operation gives is of the kind that it says -/
theorem opV_fits (op : Int) (l : List V) (ks : List Co) (c : Co) (h4 : 4 ≤ op) (h25 : op ≤ 25) (hm : manyB op l.length = true) (hf : fitsL l ks = true) (hok : ∀ v ∈ l, v.ok = true) (hr : ∀ k ∈ ks, k.1 ≠ 0) (hc : combE op 0 0 ks = some c) : (opV op l).ok = true ∧ fitB (opV op l) c = true := by
  have hlen := fitsL_len hf
  have hl1 : 1 ≤ l.length := by
    unfold manyB at hm
    split at hm
    · simp at hm; omega
    · split at hm
      · simp at hm; omega
      · split at hm
        · simp at hm; omega
        · simp at hm; omega
  have hhd := head_mem hl1
  have hfst : fstK ks ≠ 0 := by
    cases ks with
    | nil => rw [hlen] at hl1; simp at hl1
    | cons k ks => exact hr k (List.mem_cons_self ..)
  have strict : ∀ (K : Int) (c' : Co), allK ks K = true → K ≠ 0 → (c'.2 = true ∨ c'.2 = anyN ks) → ((∀ v ∈ l, v.k = K) → (strictV op (l.headD zV) (l.getLast?.getD zV)).ok = true ∧ fitB (strictV op (l.headD zV) (l.getLast?.getD zV)) c' = true) →
      ((if (l.any fun v => v.k == 0) then zV else strictV op (l.headD zV) (l.getLast?.getD zV)).ok = true ∧ fitB (if (l.any fun v => v.k == 0) then zV else strictV op (l.headD zV) (l.getLast?.getD zV)) c' = true) := by
    intro K c' h1 h2 h3 h5
    cases hn : (l.any fun v => v.k == 0) with
    | true =>
      rw [if_pos rfl]
      refine ⟨rfl, ?_⟩
      have : c'.2 = true := by
        rcases h3 with h3 | h3
        · exact h3
        · rw [h3]; exact fits_null hf h1 h2 hn
      rw [fitB_iff]
      exact .inr ⟨this, rfl⟩
    | false =>
      rw [if_neg (by decide)]
      exact h5 (fits_kind hf h1 hn)
  have : op = 4 ∨ op = 5 ∨ op = 6 ∨ op = 7 ∨ op = 8 ∨ op = 9 ∨ op = 10 ∨ op = 11 ∨ op = 12 ∨ op = 13 ∨ op = 14 ∨ op = 15 ∨ op = 16 ∨ op = 17 ∨ op = 18 ∨ op = 19 ∨ op = 20 ∨ op = 21 ∨ op = 22 ∨ op = 23 ∨ op = 24 ∨ op = 25 := by omega
  have num : ∀ (op : Int), (op = 4 ∨ op = 5 ∨ op = 6 ∨ op = 9) → ∀ x y : V, (strictV op x y).ok = true ∧ (strictV op x y).k = 1 := by
    rintro op (rfl | rfl | rfl | rfl) x y <;> exact ⟨rfl, rfl⟩
  have cmp : ∀ (op : Int), 12 ≤ op → op ≤ 17 → ∀ x y : V, (strictV op x y).ok = true ∧ (strictV op x y).k = 2 := by
    intro op h1 h2 x y
    have : op = 12 ∨ op = 13 ∨ op = 14 ∨ op = 15 ∨ op = 16 ∨ op = 17 := by omega
    rcases this with rfl | rfl | rfl | rfl | rfl | rfl <;> exact ⟨truV_ok _, rfl⟩
  have div : ∀ (op : Int), (op = 7 ∨ op = 8) → ∀ x y : V, (strictV op x y).ok = true ∧ fitB (strictV op x y) (1, true) = true := by
    rintro op (rfl | rfl) x y
    · show (divV 7 x.n y.n).ok = true ∧ _
      change (divV 7 x.n y.n).ok = true ∧ fitB (divV 7 x.n y.n) (1, true) = true
      unfold divV
      split
      · exact ⟨rfl, rfl⟩
      · rw [if_pos rfl]; exact ⟨rfl, rfl⟩
    · change (divV 8 x.n y.n).ok = true ∧ fitB (divV 8 x.n y.n) (1, true) = true
      unfold divV
      split
      · exact ⟨rfl, rfl⟩
      · rw [if_neg (by decide)]; exact ⟨rfl, rfl⟩
  unfold combE at hc
  unfold opV
  by_cases g1 : op = 4 ∨ op = 5 ∨ op = 6 ∨ op = 9
  · rw [if_neg (by omega), if_pos g1] at hc
    cases ha : allK ks 1 with
    | false => rw [ha] at hc; cases hc
    | true =>
      rw [ha, if_pos rfl] at hc
      cases hc
      rw [if_neg (by omega), if_neg (by omega), if_neg (by omega), if_neg (by omega), if_neg (by omega), if_neg (by omega), if_neg (by omega), if_neg (by omega)]
      exact strict 1 _ ha (by decide) (.inr rfl) fun _ => ⟨(num op g1 _ _).1, fitB_iff.2 (.inl (num op g1 _ _).2)⟩
  by_cases g2 : op = 7 ∨ op = 8
  · rw [if_neg (by omega), if_neg g1, if_pos g2] at hc
    cases ha : allK ks 1 with
    | false => rw [ha] at hc; cases hc
    | true =>
      rw [ha, if_pos rfl] at hc
      cases hc
      rw [if_neg (by omega), if_neg (by omega), if_neg (by omega), if_neg (by omega), if_neg (by omega), if_neg (by omega), if_neg (by omega), if_neg (by omega)]
      exact strict 1 _ ha (by decide) (.inl rfl) fun _ => div op g2 _ _
  by_cases g3 : op = 10
  · rw [if_neg (by omega), if_neg g1, if_neg g2, if_pos g3] at hc
    cases ha : allK ks 3 with
    | false => rw [ha] at hc; cases hc
    | true =>
      rw [ha, if_pos rfl] at hc
      cases hc
      rw [if_neg (by omega), if_neg (by omega), if_neg (by omega), if_neg (by omega), if_neg (by omega), if_neg (by omega), if_neg (by omega), if_neg (by omega)]
      refine strict 3 _ ha (by decide) (.inr rfl) fun hk => ?_
      subst g3
      exact ⟨txtV_ok (okVal_text (hok _ hhd.1) (hk _ hhd.1)) (okVal_text (hok _ hhd.2) (hk _ hhd.2)), fitB_iff.2 (.inl rfl)⟩
  by_cases g4 : op = 11
  · rw [if_neg (by omega), if_neg g1, if_neg g2, if_neg g3, if_pos g4] at hc
    cases ha : allK ks 3 with
    | false => rw [ha] at hc; cases hc
    | true =>
      rw [ha, if_pos rfl] at hc
      cases hc
      rw [if_neg (by omega), if_neg (by omega), if_neg (by omega), if_neg (by omega), if_neg (by omega), if_neg (by omega), if_neg (by omega), if_neg (by omega)]
      refine strict 3 _ ha (by decide) (.inr rfl) fun hk => ?_
      subst g4
      exact ⟨rfl, fitB_iff.2 (.inl rfl)⟩
  by_cases g5 : 12 ≤ op ∧ op ≤ 17
  · rw [if_neg (by omega), if_neg g1, if_neg g2, if_neg g3, if_neg g4, if_pos g5] at hc
    cases ha : allK ks (fstK ks) with
    | false => rw [ha] at hc; cases hc
    | true =>
      rw [ha, if_pos rfl] at hc
      cases hc
      rw [if_neg (by omega), if_neg (by omega), if_neg (by omega), if_neg (by omega), if_neg (by omega), if_neg (by omega), if_neg (by omega), if_neg (by omega)]
      exact strict _ _ ha hfst (.inr rfl) fun _ => ⟨(cmp op g5.1 g5.2 _ _).1, fitB_iff.2 (.inl (cmp op g5.1 g5.2 _ _).2)⟩
  by_cases g6 : op = 18
  · rw [if_neg (by omega), if_neg g1, if_neg g2, if_neg g3, if_neg g4, if_neg g5, if_pos g6] at hc
    cases ha : allK ks (fstK ks) with
    | false => rw [ha] at hc; cases hc
    | true =>
      rw [ha, if_pos rfl] at hc
      cases hc
      rw [if_pos g6]
      exact ⟨truV_ok _, fitB_iff.2 (.inl rfl)⟩
  by_cases g7 : op = 19 ∨ op = 20 ∨ op = 21
  · rw [if_neg (by omega), if_neg g1, if_neg g2, if_neg g3, if_neg g4, if_neg g5, if_neg g6, if_pos g7] at hc
    cases ha : allK ks 2 with
    | false => rw [ha] at hc; cases hc
    | true =>
      rw [ha, if_pos rfl] at hc
      cases hc
      rw [if_neg g6]
      rcases g7 with rfl | rfl | rfl
      · exact joinV_fits false hf ha
      · exact joinV_fits true hf ha
      · rw [if_neg (by decide), if_neg (by decide), if_pos rfl]
        unfold notV
        split
        · exact ⟨hok _ hhd.1, fits_one hf ha hhd.1⟩
        · exact ⟨truV_ok _, fitB_iff.2 (.inl rfl)⟩
  by_cases g8 : op = 22
  · rw [if_neg (by omega), if_neg g1, if_neg g2, if_neg g3, if_neg g4, if_neg g5, if_neg g6, if_neg g7, if_pos g8] at hc
    cases hc
    rw [if_neg (by omega), if_neg (by omega), if_neg (by omega), if_neg (by omega), if_pos g8]
    exact ⟨truV_ok _, fitB_iff.2 (.inl rfl)⟩
  by_cases g9 : op = 23
  · rw [if_neg (by omega), if_neg g1, if_neg g2, if_neg g3, if_neg g4, if_neg g5, if_neg g6, if_neg g7, if_neg g8, if_pos g9] at hc
    cases ha : allK ks 2 with
    | false => rw [ha] at hc; cases hc
    | true =>
      rw [ha, if_pos rfl] at hc
      cases hc
      rw [if_neg (by omega), if_neg (by omega), if_neg (by omega), if_neg (by omega), if_neg (by omega), if_pos g9]
      exact ⟨truV_ok _, fitB_iff.2 (.inl rfl)⟩
  by_cases g10 : op = 24
  · rw [if_neg (by omega), if_neg g1, if_neg g2, if_neg g3, if_neg g4, if_neg g5, if_neg g6, if_neg g7, if_neg g8, if_neg g9, if_pos g10] at hc
    rw [if_neg (by omega), if_neg (by omega), if_neg (by omega), if_neg (by omega), if_neg (by omega), if_neg (by omega), if_pos g10]
    cases ha : allK (vals ks) (fstK (vals ks)) with
    | false => rw [ha, Bool.and_false] at hc; cases hc
    | true =>
      cases ha2 : allK (conds ks) 2 with
      | false => rw [ha2, ha] at hc; cases hc
      | true =>
        rw [ha, ha2, if_pos (by decide)] at hc
        cases hc
        have hodd : l.length % 2 = 1 := by
          rw [g10] at hm
          simp [manyB] at hm
          have := hm.1.2
          rw [Int.tmod_eq_emod_of_nonneg (by omega)] at this
          omega
        have hmem := caseV_mem hl1 hodd
        have hsub : ∀ (x : List V) (v : V), v ∈ vals x → v ∈ x := by
          intro x
          induction x using vals.induct with
          | case1 a b x ih =>
            intro v hv
            rw [vals] at hv
            rcases List.mem_cons.1 hv with rfl | hv
            · simp
            · simp [ih v hv]
          | case2 x h =>
            intro v hv
            match x, h with
            | [], _ => simp [vals] at hv
            | [y], _ => simpa [vals] using hv
            | a :: b :: y, h => exact absurd rfl (h a b y)
        exact ⟨hok _ (hsub _ _ hmem), fits_one (fits_vals hf) ha hmem⟩
  · have g11 : op = 25 := by omega
    rw [if_neg (by omega), if_neg g1, if_neg g2, if_neg g3, if_neg g4, if_neg g5, if_neg g6, if_neg g7, if_neg g8, if_neg g9, if_neg g10] at hc
    rw [if_neg (by omega), if_neg (by omega), if_neg (by omega), if_neg (by omega), if_neg (by omega), if_neg (by omega), if_neg (by omega), if_pos g11]
    cases ha : allK ks (fstK ks) with
    | false => rw [ha] at hc; cases hc
    | true =>
      rw [ha, if_pos rfl] at hc
      cases hc
      exact coalV_fits hf ha hfst hok
mutual
/-- the value of an expression on a row -/
def evalE (row : List V) : E → V
  | .mk op n _ _ lit args _ => if op = 1 then (row[n.toNat]?).getD zV else if op = 3 then lit else opV op (evalL row args)
def evalL (row : List V) : List E → List V
  | [] => []
  | e :: l => evalE row e :: evalL row l
end
theorem evalE_of (row : List V) (e : E) : evalE row e = if e.op = 1 then (row[e.n.toNat]?).getD zV else if e.op = 3 then e.lit else opV e.op (e.args.map (evalE row)) := by
  have h : ∀ l : List E, evalL row l = l.map (evalE row) := by
    intro l
    induction l with
    | nil => rw [evalL]; rfl
    | cons x l ih => rw [evalL, ih]; rfl
  cases e
  rw [evalE, h]; rfl
theorem fits_at : ∀ {l : List V} {ks : List Co} {i : Nat} {k : Co}, fitsL l ks = true → ks[i]? = some k → ∃ v, l[i]? = some v ∧ fitB v k = true
  | v :: l, q :: ks, 0, k, h, hk => by
    rw [fitsL, Bool.and_eq_true] at h
    simp at hk
    subst hk
    exact ⟨v, by simp, h.1⟩
  | v :: l, q :: ks, i + 1, k, h, hk => by
    rw [fitsL, Bool.and_eq_true] at h
    have := fits_at (i := i) h.2 (by simpa using hk)
    simpa using this
  | [], [], _, _, _, hk => by simp at hk
  | [], _ :: _, _, _, h, _ => by simp [fitsL] at h
  | _ :: _, [], _, _, h, _ => by simp [fitsL] at h
theorem combE_any (op k litk : Int) (l : List Co) (h : 4 ≤ op) : combE op k litk l = combE op 0 0 l := by
  unfold combE
  rw [if_neg (show ¬ op = 3 by omega), if_neg (show ¬ op = 3 by omega)]
theorem vals_sub : ∀ (x : List Co) (v : Co), v ∈ vals x → v ∈ x
  | [], v, h => by simp [vals] at h
  | [y], v, h => by simpa [vals] using h
  | a :: b :: x, v, h => by
    rw [vals] at h
    rcases List.mem_cons.1 h with rfl | h
    · simp
    · have := vals_sub x v h
      simp [this]
theorem ite_some {p : Prop} [Decidable p] {a b : Option Co} {c : Co} (h : (if p then a else b) = some c) : a = some c ∨ b = some c := by
  split at h
  · exact .inl h
  · exact .inr h
theorem leaf_some {p : Prop} [Decidable p] {x c : Co} (h : (if p then some x else none) = some c) : x = c := by
  split at h
  · injection h
  · cases h
theorem combE_real {op : Int} {ks : List Co} {c : Co} (h4 : 4 ≤ op) (h0 : 0 < ks.length) (hr : ∀ k ∈ ks, k.1 ≠ 0) (h : combE op 0 0 ks = some c) : c.1 ≠ 0 := by
  have hfst : ∀ l : List Co, 0 < l.length → (∀ k ∈ l, k.1 ≠ 0) → fstK l ≠ 0 := by
    intro l hl hr
    cases l with
    | nil => cases hl
    | cons k l => exact hr k (List.mem_cons_self ..)
  unfold combE at h
  rw [if_neg (show ¬ op = 3 by omega)] at h
  rcases ite_some h with h | h
  · rw [← leaf_some h]; show (1 : Int) ≠ 0; decide
  rcases ite_some h with h | h
  · rw [← leaf_some h]; show (1 : Int) ≠ 0; decide
  rcases ite_some h with h | h
  · rw [← leaf_some h]; show (3 : Int) ≠ 0; decide
  rcases ite_some h with h | h
  · rw [← leaf_some h]; show (1 : Int) ≠ 0; decide
  rcases ite_some h with h | h
  · rw [← leaf_some h]; show (2 : Int) ≠ 0; decide
  rcases ite_some h with h | h
  · rw [← leaf_some h]; show (2 : Int) ≠ 0; decide
  rcases ite_some h with h | h
  · rw [← leaf_some h]; show (2 : Int) ≠ 0; decide
  rcases ite_some h with h | h
  · cases h; show (2 : Int) ≠ 0; decide
  rcases ite_some h with h | h
  · rw [← leaf_some h]; show (2 : Int) ≠ 0; decide
  rcases ite_some h with h | h
  · rw [← leaf_some h]; exact hfst (vals ks) (vals_pos ks h0).1 fun k hk => hr k (vals_sub ks k hk)
  · rw [← leaf_some h]; exact hfst ks h0 hr
/-- the value of an expression is of its kind -/
theorem evalE_fits (row : List V) (cs : List Co) (hrow : fitsL row cs = true) (hrok : ∀ v ∈ row, v.ok = true) (hreal : ∀ k ∈ cs, k.1 ≠ 0) : ∀ (d : Nat) (e : E) (c : Co), shapedE d e = true → kindE cs e = some c → (evalE row e).ok = true ∧ fitB (evalE row e) c = true ∧ c.1 ≠ 0 := by
  intro d
  induction d with
  | zero => intro e c h; rw [shapedE_zero] at h; cases h
  | succ d ih =>
    intro e c h hk
    rw [shapedE_succ, Bool.and_eq_true] at h
    rw [kindE_of] at hk
    rw [evalE_of]
    rcases (node_cases h.1).2 with ⟨ho, hn, _⟩ | ⟨ho, _⟩ | ⟨ho, hkk, hok, hlk, hz⟩ | ⟨h4, h25, hm⟩
    · rw [if_neg (by omega), if_pos ho, if_neg (by omega)] at hk
      obtain ⟨v, hv, hf⟩ := fits_at hrow hk
      rw [if_pos ho, hv]
      exact ⟨hrok v (List.mem_of_getElem? hv), hf, hreal c (List.mem_of_getElem? hk)⟩
    · rw [if_pos ho] at hk; cases hk
    · rw [if_neg (by omega), if_neg (by omega), hz] at hk
      simp only [kindL] at hk
      unfold combE at hk
      rw [if_pos ho] at hk
      cases hk
      rw [if_neg (by omega), if_pos ho]
      refine ⟨hok, fitB_iff.2 ?_, by show e.kind ≠ 0; omega⟩
      rcases hlk with h0 | h0
      · exact .inr ⟨by simp [h0], h0⟩
      · exact .inl h0
    · rw [if_neg (by omega), if_neg (by omega)] at hk
      rw [if_neg (by omega), if_neg (by omega)]
      cases hl : kindL cs e.args with
      | none => rw [hl] at hk; cases hk
      | some ks =>
        rw [hl] at hk
        have hk : combE e.op 0 0 ks = some c := by rw [← combE_any e.op e.kind e.lit.k ks h4]; exact hk
        have key : ∀ (l : List E) (ks : List Co), (∀ x ∈ l, shapedE d x = true) → kindL cs l = some ks → fitsL (l.map (evalE row)) ks = true ∧ (∀ v ∈ l.map (evalE row), v.ok = true) ∧ ∀ k ∈ ks, k.1 ≠ 0 := by
          intro l
          induction l with
          | nil =>
            intro ks _ hks
            simp only [kindL, Option.some.injEq] at hks
            subst hks
            exact ⟨rfl, fun v hv => (by cases hv), fun k hk => by cases hk⟩
          | cons x l ihl =>
            intro ks hsh hks
            rw [kindL] at hks
            cases hx : kindE cs x with
            | none => rw [hx] at hks; cases hks
            | some cx =>
              rw [hx] at hks
              cases hl2 : kindL cs l with
              | none => simp only [hl2] at hks; cases hks
              | some r =>
                simp only [hl2, Option.some.injEq] at hks
                subst hks
                have h1 := ih x cx (hsh x (List.mem_cons_self ..)) hx
                have h2 := ihl r (fun y hy => hsh y (List.mem_cons_of_mem _ hy)) hl2
                refine ⟨?_, ?_, ?_⟩
                · rw [List.map_cons, fitsL, h1.2.1, h2.1]; rfl
                · intro v hv
                  rcases List.mem_cons.1 hv with rfl | hv
                  · exact h1.1
                  · exact h2.2.1 v hv
                · intro k hk
                  rcases List.mem_cons.1 hk with rfl | hk
                  · exact h1.2.2
                  · exact h2.2.2 k hk
        have hks := key e.args ks (shapedL_mem h.2) hl
        have hlen := kindL_len cs e.args ks hl
        have hm' : manyB e.op ((e.args.map (evalE row)).length : Nat) = true := by rw [List.length_map]; exact hm
        have hof := opV_fits e.op (e.args.map (evalE row)) ks c h4 h25 hm' hks.1 hks.2.1 hks.2.2 hk
        exact ⟨hof.1, hof.2, combE_real h4 (by rw [hlen]; exact (many_le hm).2) hks.2.2 hk⟩
end Go.Proofs.YtdiehgfldndgbaaGreatDoor
namespace Go.Proofs.YtdiehgfldndgbaaGreatDoor
open Go.RowKit Go.Deep

theorem findIdx_hit {p : V → Bool} : ∀ {l : List V} {k : Nat} (h : k < l.length), (l.take k).any p = false → p l[k] = true → l.findIdx p = k
  | v :: l, 0, _, _, hp => by
    simp only [List.getElem_cons_zero] at hp
    rw [List.findIdx_cons, hp]; rfl
  | v :: l, k + 1, h, ha, hp => by
    rw [List.take_succ_cons, List.any_cons, Bool.or_eq_false_iff] at ha
    rw [List.findIdx_cons, ha.1, findIdx_hit (l := l) (k := k) (by simpa using h) ha.2 (by simpa using hp)]; rfl
theorem findIdx_none {p : V → Bool} : ∀ {l : List V}, l.any p = false → l.findIdx p = l.length
  | [], _ => rfl
  | v :: l, h => by
    rw [List.any_cons, Bool.or_eq_false_iff] at h
    rw [List.findIdx_cons, h.1, findIdx_none h.2]; rfl
/-- the place of the first one, or -1 -/
def idxV (p : V → Bool) (l : List V) : Int := if l.any p = true then (l.findIdx p : Nat) else -1
set_option maxHeartbeats 2000000 in
set_option maxRecDepth 100000 in
theorem Index_val (x : V) (A : Option Addr) (c : Nat) (l : List V) (w : World) (hr : VReads w w.heap.size A l) (hn : l.length ≤ 1000000) :
    Calls Tryz.prog 241 #[.slice A l.length c, .agg #[.int .i64 x.k, .int .i64 x.n, .string x.s]] w fun e w' => e = .returned (.int .i64 (idxV (fun v => veq x.k x.n x.s v.k v.n v.s) l)) ∧ Below w.heap.size w w' := by
  have HR := Lib.hid hr
  have hev := @eqV
  clear hr
  go_enter Tryz.func241, Tryz.ntmps241
  go_wp2_with fail
  have HB0 := Lib.hid (Blk.new w 27 #[.int .i64 x.k, .int .i64 x.n, .string x.s])
  go_loopw [8] (fun iv wr => ∃ j : Nat, j ≤ l.length ∧ iv = .int .i64 j ∧ Hid (Below w.heap.size w wr ∧ Blk wr w.heap.size 27 #[.int .i64 x.k, .int .i64 x.n, .string x.s]) ∧ Hid ((l.take j).any (fun v => veq x.k x.n x.s v.k v.n v.s) = false)) (fun iv _ => l.length - (intOf iv).toNat)
  case atStart => exact ⟨0, Nat.zero_le _, rfl, ⟨al (Below.refl _ _) _, HB0.out⟩, Lib.hid (by simp)⟩
  case round =>
    obtain ⟨j, hj, rfl, HW, HT⟩ := hrel
    by_cases hlt : j < l.length
    · have hlti : (j : Int) < (l.length : Int) := by omega
      obtain ⟨b, o, rfl, hblk, c0, c1, c2⟩ := (HR.out.below HW.out.1 HW.out.1.size).at_ hlt
      have X0 : ∀ y : Aft wr, y.w.cell? ⟨b, o + j * 3, none⟩ = some (.int .i64 l[j].k) := fun y => (y.h.cell (p := ⟨b, _, none⟩) hblk).trans c0
      have X1 : ∀ y : Aft wr, y.w.cell? ⟨b, o + j * 3 + 1, none⟩ = some (.int .i64 l[j].n) := fun y => (y.h.cell (p := ⟨b, _, none⟩) hblk).trans c1
      have X2 : ∀ y : Aft wr, y.w.cell? ⟨b, o + j * 3 + 2, none⟩ = some (.string l[j].s) := fun y => (y.h.cell (p := ⟨b, _, none⟩) hblk).trans c2
      have Y0 : ∀ y : Aft wr, y.w.cell? ⟨w.heap.size, 0, none⟩ = some (.int .i64 x.k) := fun y => (y.h.cell (p := ⟨w.heap.size, 0, none⟩) HW.out.2.lt).trans (HW.out.2.cell 0)
      have Y1 : ∀ y : Aft wr, y.w.cell? ⟨w.heap.size, 1, none⟩ = some (.int .i64 x.n) := fun y => (y.h.cell (p := ⟨w.heap.size, 1, none⟩) HW.out.2.lt).trans (HW.out.2.cell 1)
      have Y2 : ∀ y : Aft wr, y.w.cell? ⟨w.heap.size, 2, none⟩ = some (.string x.s) := fun y => (y.h.cell (p := ⟨w.heap.size, 2, none⟩) HW.out.2.lt).trans (HW.out.2.cell 2)
      have HSt := Lib.hid (any_take_snoc (l := l) (p := fun v => veq x.k x.n x.s v.k v.n v.s) hlt)
      have HHit := Lib.hid (findIdx_hit (p := fun v => veq x.k x.n x.s v.k v.n v.s) hlt HT.out)
      have HAt := Lib.hid (any_at (p := fun v => veq x.k x.n x.s v.k v.n v.s) hlt)
      clear c0 c1 c2
      cases hq : veq x.k x.n x.s l[j].k l[j].n l[j].s with
      | true =>
        have HN : Hid (idxV (fun v => veq x.k x.n x.s v.k v.n v.s) l = (j : Int)) := Lib.hid (by unfold idxV; rw [if_pos (HAt.out hq), HHit.out hq])
        clear HSt HHit HAt
        generalize l[j] = u at *
        go_wp2_with fail
        refine region_aft (by kernel_rfl) (by kernel_rfl) ?_
        repeat (go_big_quiet_step (fail))
        refine wpQuiet_nil ?_
        intro x9
        have H9 := Lib.hid (thn HW.out.1 x9.h)
        clear X0 X1 X2 Y0 Y1 Y2
        go_wp2_with fail
        go_ret
        exact ⟨by rw [HN.out]; rfl, H9.out⟩
      | false =>
        have HN : Hid ((l.take (j + 1)).any (fun v => veq x.k x.n x.s v.k v.n v.s) = false) := Lib.hid (by rw [HSt.out, HT.out, hq]; rfl)
        clear HSt HHit HAt
        generalize l[j] = u at *
        go_wp2_with fail
        refine region_aft (by kernel_rfl) (by kernel_rfl) ?_
        repeat (go_big_quiet_step (fail))
        refine wpQuiet_nil ?_
        intro x9
        have H9 : Hid (Below w.heap.size w x9.w ∧ Blk x9.w w.heap.size 27 #[.int .i64 x.k, .int .i64 x.n, .string x.s]) := Lib.hid ⟨thn HW.out.1 x9.h, HW.out.2.below x9.h HW.out.2.lt⟩
        clear X0 X1 X2 Y0 Y1 Y2
        go_wp2_with fail
        exact ⟨⟨j + 1, by omega, by go_num, H9, HN⟩, by simp [intOf]; omega⟩
    · have hlf : decide ((j : Int) < (l.length : Int)) = false := decide_eq_false (by omega)
      have HN : Hid (idxV (fun v => veq x.k x.n x.s v.k v.n v.s) l = -1) := Lib.hid (by
        have h := HT.out
        rw [List.take_of_length_le (by omega)] at h
        unfold idxV
        rw [h]; rfl)
      go_wp2_with fail
      go_ret
      exact ⟨by rw [HN.out]; rfl, HW.out.1⟩
set_option maxHeartbeats 1000000 in
theorem IndexFunc_val0 (gf : FuncId) (p : V → Bool) (A : Option Addr) (c : Nat) (cs : List V) (w : World) (hr : VReads w w.heap.size A cs) (hn : cs.length ≤ 1000000)
    (heg : ∀ args W, (callFunc gf args).run Tryz.prog W = .ok (.enter gf args) W)
    (hcall : ∀ w1, Below w.heap.size w w1 → ∀ q ∈ cs, Calls Tryz.prog gf #[.agg #[.int .i64 q.k, .int .i64 q.n, .string q.s]] w1 fun e w' => e = .returned (.bool (p q)) ∧ Below w1.heap.size w1 w') :
    Calls Tryz.prog 168 #[.slice A cs.length c, .func (.func gf) #[] #[]] w fun e w' => ∃ z, e = .returned (.int .i64 z) ∧ FoundI z (cs.any p) ∧ Below w.heap.size w w' := by
  have HR := Lib.hid hr
  have HC := Lib.hid hcall
  clear hr hcall
  go_enter Tryz.func168, Tryz.ntmps168
  go_wp2
  go_loopw [8] (fun i wr => ∃ k : Nat, k ≤ cs.length ∧ i = .int .i64 k ∧ Hid ((cs.take k).any p = false ∧ Below w.heap.size w wr)) (fun i _ => cs.length - (intOf i).toNat)
  case atStart => exact ⟨0, Nat.zero_le _, rfl, by simp, Below.refl _ _⟩
  case round =>
    obtain ⟨k, hk, rfl, HI⟩ := hrel
    by_cases hlt : k < cs.length
    · obtain ⟨b, o, rfl, hblk, c0, c1, c2⟩ := (HR.out.below HI.out.2 HI.out.2.size).at_ hlt
      have HX := Lib.hid (HC.out wr HI.out.2 cs[k] (List.getElem_mem hlt))
      have HN := Lib.hid (fun h : p cs[k] = false => (by rw [any_take_snoc hlt, HI.out.1, h]; rfl : (cs.take (k + 1)).any p = false))
      have HY := Lib.hid (fun h : p cs[k] = true => any_at (p := p) hlt h)
      go_wp2_with fail
      refine HX.out.mono ?_
      rintro e w1 ⟨rfl, hb1⟩
      have W1 := Lib.hid (thn HI.out.2 hb1)
      clear hb1 HX c0 c1 c2
      generalize p cs[k] = q at *
      cases q
      · have HN2 := Lib.hid (HN.out rfl)
        clear HN HY
        go_wp2_with fail
        first | exact ⟨⟨k + 1, by omega, by go_num, HN2.out, W1.out⟩, by simp [intOf]; omega⟩ | (go_roundw; case rel => exact ⟨k + 1, by omega, by go_num, HN2.out, W1.out⟩; case measure => simp [intOf]; omega)
      · have HY2 := Lib.hid (HY.out rfl)
        clear HN HY
        go_wp2_with fail
        go_ret
        exact ⟨_, rfl, .inl ⟨HY2.out, by omega, by omega⟩, W1.out⟩
    · have hkn : k = cs.length := by omega
      subst hkn
      go_wp2_with fail
      go_ret
      exact ⟨_, rfl, .inr ⟨by have := HI.out.1; rwa [List.take_length] at this, rfl⟩, HI.out.2⟩
set_option maxHeartbeats 1000000 in
theorem ContainsFunc_val0 (gf : FuncId) (p : V → Bool) (A : Option Addr) (c : Nat) (cs : List V) (w : World) (hr : VReads w w.heap.size A cs) (hn : cs.length ≤ 1000000)
    (heg : ∀ args W, (callFunc gf args).run Tryz.prog W = .ok (.enter gf args) W)
    (hcall : ∀ w1, Below w.heap.size w w1 → ∀ q ∈ cs, Calls Tryz.prog gf #[.agg #[.int .i64 q.k, .int .i64 q.n, .string q.s]] w1 fun e w' => e = .returned (.bool (p q)) ∧ Below w1.heap.size w1 w') :
    Calls Tryz.prog 121 #[.slice A cs.length c, .func (.func gf) #[] #[]] w fun e w' => e = .returned (.bool (cs.any p)) ∧ Below w.heap.size w w' := by
  have HX := Lib.hid (IndexFunc_val0 gf p A c cs w hr hn heg hcall)
  clear hr hcall heg
  go_enter Tryz.func121, Tryz.ntmps121
  go_wp2_with fail
  refine HX.out.mono ?_
  rintro e w1 ⟨z, rfl, hz, hb1⟩
  have HZ := Lib.hid hz.bool
  clear hz HX
  go_wp2_with fail
  go_ret
  exact ⟨ret_bool HZ.out, hb1⟩
/-- whether an operation is null if an argument is null -/
def strB2 (m : Nat) : Bool := decide (m ≤ 17) || m == 21
theorem isStrict_any (m : Nat) (w : World) (h4 : 4 ≤ m) : Calls Tryz.prog 120 #[.int .i64 (m : Nat)] w fun e w' => e = .returned (.bool (strB2 m)) ∧ w = w' := by
  have d4 : decide ((4 : Int) ≤ (m : Int)) = true := decide_eq_true (by omega)
  have d4b : decide (4 ≤ m) = true := decide_eq_true h4
  by_cases h17 : m ≤ 17
  · have d17 : decide ((m : Int) ≤ 17) = true := decide_eq_true (by omega)
    have d17b : decide (m ≤ 17) = true := decide_eq_true h17
    have HE : Hid (strB2 m = true) := Lib.hid (by unfold strB2; rw [d17b]; rfl)
    go_enter Tryz.func120, Tryz.ntmps120
    go_wp2_with fail
    go_ret
    exact ⟨by rw [HE.out]; rfl, rfl⟩
  · have d17 : decide ((m : Int) ≤ 17) = false := decide_eq_false (by omega)
    have d17b : decide (m ≤ 17) = false := decide_eq_false h17
    by_cases h21 : m = 21
    · subst h21
      have HE : Hid (strB2 21 = true) := Lib.hid rfl
      go_enter Tryz.func120, Tryz.ntmps120
      go_wp2_with fail
      go_ret
      exact ⟨by rw [HE.out]; rfl, rfl⟩
    · have e21 : ((m : Int) == 21) = false := beq_eq_false_iff_ne.2 (by omega)
      have HE : Hid (strB2 m = false) := Lib.hid (by unfold strB2; rw [d17b, beq_eq_false_iff_ne.2 h21]; rfl)
      go_enter Tryz.func120, Tryz.ntmps120
      go_wp2_with fail
      go_ret
      exact ⟨by rw [HE.out]; rfl, rfl⟩
end Go.Proofs.YtdiehgfldndgbaaGreatDoor
