/-
  CONTRACTS: the library's clone and sort at values; sortedBy.
-/
import Derived.Test.YtmhddoikicapjaaGreatDoorRefA
import Derived.Test.YtmhddoikicapjaaGreatDoorSort
import Derived.Lib.OwnBridge
namespace Go.Proofs.YtmhddoikicapjaaGreatDoor
open Go.RowKit Go.Sort

/-- a value's cells -/
def encV (x : V) : List Value := [.int .i64 x.k, .int .i64 x.n, .string x.s]
instance : Inhabited V := ⟨zV⟩
theorem flat_at (l : List V) (t : Nat) (h : t < l.length * 3) : (flatK encV 3 l.toArray)[t]! = (vcells l)[t]! := by
  rw [get_flatK encV 3 l.toArray t (by simpa using h)]
  have h3 : t / 3 < l.length := by omega
  have hv := vcells_at l (t / 3) (t % 3) l[t / 3] (List.getElem?_eq_getElem h3) (by omega)
  have e : t / 3 * 3 + t % 3 = t := by omega
  rw [e] at hv
  have hd : l.toArray[t / 3]! = l[t / 3] := by
    rw [getElem!_pos l.toArray (t / 3) (by simpa using h3)]
    simp
  rw [hd, List.getElem!_eq_getElem?_getD, List.getElem!_eq_getElem?_getD, hv]
  rfl
theorem holds_down {w : World} {base : Nat} {e : TypeId} {v : Value} {l : List V} (h : w.ownsRow base e 3 v l.length (vcells l)) (hv : v ≠ .slice none 0 0) :
    ∃ g cap, v = .slice (some ⟨g, 0, none⟩) l.length cap ∧ base ≤ g ∧ g < w.heap.size ∧ l.length ≤ cap ∧ HoldsK encV 3 w g 0 l.toArray := by
  rcases h.2 with ⟨e0, _⟩ | ⟨g, cap, cur, rfl, hb, hg, hn, hm, hs, ht⟩
  · exact absurd e0 hv
  · have hlt : g < w.heap.size := by
      rcases Nat.lt_or_ge g w.heap.size with h' | h'
      · exact h'
      · rw [Array.getElem?_eq_none h'] at hg; cases hg
    refine ⟨g, cap, rfl, hb, hlt, hn, fun j hj => ?_⟩
    have hj' : j < l.length * 3 := by simpa using hj
    refine ⟨?_, by simp [World.frozen?, hg]⟩
    have e1 : (cur.toList.take (l.length * 3))[j]? = (vcells l)[j]? := by rw [ht]
    rw [List.getElem?_take, if_pos hj', Array.getElem?_toList] at e1
    rw [flat_at l j hj']
    simp only [World.cell?, hg, Nat.zero_add]
    simp only [Option.isSome_none, Bool.false_eq_true, if_false]
    rw [e1, List.getElem!_eq_getElem?_getD, List.getElem?_eq_getElem (by rw [vcells_len]; omega)]
    rfl
theorem own_sorted {w : World} {base : Nat} {e : TypeId} {g cap q : Nat} {l r : List V} (os : Array Obj) (h : w.ownsRow base e 3 (.slice (some ⟨g, 0, none⟩) l.length cap) l.length (vcells l)) (hr : r.length = l.length) :
    (sortWorldK encV 3 w g 0 q r.toArray os).ownsRow base e 3 (.slice (some ⟨g, 0, none⟩) r.length cap) r.length (vcells r) := by
  rcases h.2 with ⟨e0, _⟩ | ⟨g', cap', cur, e0, hb, hg, hn, hm, hs, ht⟩
  · cases e0
  · injection e0 with e1 _ e3
    injection e1 with e1
    injection e1 with e1
    subst e1; subst e3
    have hlt : g < w.heap.size := by
      rcases Nat.lt_or_ge g w.heap.size with h' | h'
      · exact h'
      · rw [Array.getElem?_eq_none h'] at hg; cases hg
    refine ⟨by rw [vcells_len], .inr ⟨g, cap, putCells id 0 (flatK encV 3 r.toArray) cur, rfl, hb, ?_, by omega, hm, by simpa [putCells] using hs, ?_⟩⟩
    · unfold sortWorldK putRowK
      rw [heap_grow_old _ _ (by simpa [putRow, mapBlock, Sort.ahead] using hlt)]
      simp [putRow, mapBlock, Sort.ahead, Array.getElem?_modify, hg, onCells]
    · apply List.ext_getElem?
      intro j
      rw [List.getElem?_take, Array.getElem?_toList]
      by_cases hj : j < r.length * 3
      · have hjc : j < cur.size := by omega
        rw [if_pos hj]
        simp only [putCells, Array.getElem?_mapIdx, Array.getElem?_eq_getElem hjc, Option.map_some]
        rw [if_pos (by simp; omega), Nat.sub_zero, flat_at r j hj, List.getElem!_eq_getElem?_getD, List.getElem?_eq_getElem (by rw [vcells_len]; omega)]
        rfl
      · rw [if_neg hj, List.getElem?_eq_none (by rw [vcells_len]; omega)]
theorem below_sorted {B : Nat} {w0 w : World} {g q : Nat} {d : Array V} (os : Array Obj) (h : Below B w0 w) (hg : B ≤ g) (hB : B ≤ w.heap.size) : Below B w0 (sortWorldK encV 3 w g 0 q d os) := by
  have h1 : Below B w0 (putRow id (Sort.ahead w q) g 0 (flatK encV 3 d)) := Lib.below_putRow h hg
  have hs : (putRow id (Sort.ahead w q) g 0 (flatK encV 3 d)).heap.size = w.heap.size := by simp [putRow, mapBlock, Sort.ahead]
  refine ⟨h1.os, h1.tape, h1.output, ?_, fun k hk => ?_⟩
  · show w0.heap.size ≤ (grow _ os).heap.size
    rw [size_grow]
    exact Nat.le_trans h1.size (Nat.le_add_right _ _)
  · show (grow _ os).heap[k]? = _
    rw [heap_grow_old _ _ (by show k < (putRow id (Sort.ahead w q) g 0 (flatK encV 3 d)).heap.size; rw [hs]; omega)]
    exact h1.block k hk

set_option maxHeartbeats 400000 in
theorem compare_lays (x y : V) (w : World) :
    Calls Tryz.prog 20 (#[.agg (encV x).toArray, .agg (encV y).toArray] ++ #[]) w fun e w' => e = .returned (.int .i64 (cmpW x y)) ∧ ∃ q os', w' = grow (w.drewN q) os' := by
  obtain ⟨k, n, s⟩ := x
  obtain ⟨k', n', s'⟩ := y
  show Calls Tryz.prog 20 #[.agg #[.int .i64 k, .int .i64 n, .string s], .agg #[.int .i64 k', .int .i64 n', .string s']] w fun e w' => e = .returned (.int .i64 (cmpV k n s k' n' s')) ∧ ∃ q os', w' = grow (w.drewN q) os'
  by_cases hk : k = k'
  · by_cases hn : n = n'
    · have HR : Hid (cmpV k n s k' n' s' = Lib.compareBytes s.data.toList s'.data.toList) := by show cmpV k n s k' n' s' = _; unfold cmpV; rw [if_pos hk, if_pos hn]
      have e1 : (k != k') = false := by simp [hk]
      have e2 : (n != n') = false := by simp [hn]
      clear hk hn
      go_enter Tryz.func20, Tryz.ntmps20
      go_wp2_with fail
      refine (Tryz.strings_Compare _ _ _).mono ?_
      rintro e w1 ⟨rfl, rfl⟩
      go_wp2_with fail
      go_ret
      exact ⟨ret_int HR.out.symm, 0, _, by rw [alloc_eq_grow, alloc_eq_grow, grow_grow]; rfl⟩
    · have HR : Hid (cmpV k n s k' n' s' = cmpI n n') := by show cmpV k n s k' n' s' = _; unfold cmpV; rw [if_pos hk, if_neg hn]
      have e1 : (k != k') = false := by simp [hk]
      have e2 : (n != n') = true := by simp [hn]
      clear hk hn
      go_enter Tryz.func20, Tryz.ntmps20
      go_wp2_with fail
      refine (compare_i64 _ _ _).mono ?_
      rintro e w1 ⟨rfl, rfl⟩
      go_wp2_with fail
      go_ret
      exact ⟨ret_int HR.out.symm, 0, _, by rw [alloc_eq_grow, alloc_eq_grow, grow_grow]; rfl⟩
  · have HR : Hid (cmpV k n s k' n' s' = cmpI k k') := if_neg hk
    have e1 : (k != k') = true := by simp [hk]
    clear hk
    go_enter Tryz.func20, Tryz.ntmps20
    go_wp2_with fail
    refine (compare_kind _ _ _).mono ?_
    rintro e w1 ⟨rfl, rfl⟩
    go_wp2_with fail
    go_ret
    exact ⟨ret_int HR.out.symm, 0, _, by rw [alloc_eq_grow, alloc_eq_grow, grow_grow]; rfl⟩

theorem ltW (x y : V) : ltOf cmpW x y = decide (cmpW x y < 0) := rfl
theorem swoW : SWO (ltOf cmpW) where
  irrefl x := by rw [ltW, cmpW_self]; rfl
  trans x y z h1 h2 := by
    rw [ltW, decide_eq_true_eq] at *
    exact cmpW_lt h1 h2
  ntrans x y z h1 h2 := by
    rw [ltW, decide_eq_false_iff_not] at *
    have r1 := cmpW_rev x y
    have r2 := cmpW_rev y z
    have r3 := cmpW_rev x z
    have := cmpW_le (x := z) (y := y) (z := x) (by omega) (by omega)
    omega
theorem srt_eq (l : List V) : (l.mergeSort fun x y => !(ltOf cmpW) y x) = srt l := by
  unfold srt
  congr 1
  funext x y
  rw [ltW]
  unfold leV
  have := cmpW_rev x y
  by_cases h : cmpW x y ≤ 0
  · rw [decide_eq_true h, decide_eq_false (by omega)]; rfl
  · rw [decide_eq_false h, decide_eq_true (by omega)]; rfl
theorem encV_one (x : V) : ∀ v ∈ encV x, v.oneCell' = true := fun v hv => by
  simp only [encV, List.mem_cons, List.not_mem_nil, or_false] at hv
  rcases hv with rfl | rfl | rfl <;> rfl
/-- THE LIBRARY's SORT, of a row of the call's own -/
theorem SortFunc_any (g cap : Nat) (l : List V) (w : World) (hH : HoldsK encV 3 w g 0 l.toArray) (hg : g < w.heap.size) (hn : l.length ≤ 1000000) :
    Calls Tryz.prog 34 #[.slice (some ⟨g, 0, none⟩) l.length cap, .func (.func 20) #[] #[]] w fun e w' => e = .returned (.tuple #[]) ∧ ∃ q os, w' = sortWorldK encV 3 w g 0 q (srt l).toArray os := by
  have eg : ∀ args w, (callFunc 20 args).run Tryz.prog w = .ok (.enter 20 args) w := enters_of Tryz.func20 (by kernel_rfl) rfl
  have h := AnyQ.slices_SortFunc_total Tryz.sortV 3 Tryz.isAgg35 Tryz.sizeOf35 encV (fun _ => rfl) encV_one cmpW swoW 20 #[] g 0 cap l.toArray w eg
    (fun m os dk _ x y => compare_lays x y _) hH hg (by simp; omega) (fun x y h1 h2 => by
      rw [ltW, decide_eq_false_iff_not] at h1 h2
      have := cmpW_rev x y
      exact cmpW_eq (by omega))
  rw [srt_eq] at h
  have e : l.toArray.size = l.length := by simp
  rw [e] at h
  exact h
theorem SortFunc_none (p : Option Addr) (cap : Nat) (fv : Value) (w : World) :
    Calls Tryz.prog 34 #[.slice p 0 cap, fv] w fun e w' => e = .returned (.tuple #[]) ∧ w' = w :=
  AnyF.slices_SortFunc_none Tryz.sortV p cap fv w
set_option maxRecDepth 100000 in
/-- THE LIBRARY's CLONE -/
theorem Clone_any (b o c : Nat) (l : List V) (w : World) (hr : VReads w w.heap.size (some ⟨b, o, none⟩) l) (hn : l.length ≤ 1000000) :
    Calls Tryz.prog 33 #[.slice (some ⟨b, o, none⟩) l.length c] w fun e w' => ∃ v', e = .returned v' ∧ w'.ownsRow w.heap.size 35 3 v' l.length (vcells l) ∧ v' ≠ .slice none 0 0 ∧ Below w.heap.size w w' := by
  obtain ⟨i0, hi, hz0, hz1, hz2⟩ := info_parts infoV
  refine AnyE.slices_Clone Tryz.cloneV i0 (.agg #[.int .i64 0, .int .i64 0, .string ⟨#[]⟩]) 3 32 hi hz0 hz1 hz2 rfl (by decide) Tryz.sizeOf35 b o l.length c (vcells l) w (vcells_len l) (by unfold maxLen; omega) (by omega) (fun j u hj => ?_) (vcells_one l)
  have hjl : j < l.length * 3 := by
    rcases Nat.lt_or_ge j (l.length * 3) with h | h
    · exact h
    · rw [List.getElem?_eq_none (by rw [vcells_len]; omega)] at hj; cases hj
  obtain ⟨ad, ha, _, hc⟩ := hr.reads.2 (by omega : 0 < l.length)
  injection ha with ha
  subst ha
  have := hc j u hj
  rw [addN] at this
  exact this
theorem Clone_nil (n c : Nat) (w : World) :
    Calls Tryz.prog 33 #[.slice none n c] w fun e w' => e = .returned (.slice none 0 0) ∧ w' = w :=
  AnyE.slices_Clone_nil Tryz.cloneV n c w
/-- an address without a place within a cell -/
def Plain (A : Option Addr) : Prop := ∀ ad, A = some ad → ∃ b o, ad = ⟨b, o, none⟩
set_option maxHeartbeats 800000 in
set_option maxRecDepth 100000 in
theorem sortedBy_any (A : Option Addr) (c : Nat) (l : List V) (w : World) (hr : VReads w w.heap.size A l) (hA : Plain A) (hn : l.length ≤ 1000000) :
    Calls Tryz.prog 19 #[.slice A l.length c, .func (.func 20) #[] #[]] w fun e w' => ∃ v, e = .returned v ∧ w'.ownsRow w.heap.size 35 3 v (srt l).length (vcells (srt l)) ∧ Below w.heap.size w w' := by
  have HN := Lib.hid hn
  have hlen := srt_len l
  clear hn
  cases A with
  | none =>
    have hl : l = [] := by
      cases l with
      | nil => rfl
      | cons x r => obtain ⟨b, o, h, _⟩ := hr (by simp); cases h
    subst hl
    go_enter Tryz.func19, Tryz.ntmps19
    go_wp2_with fail
    refine (Clone_nil _ _ _).mono ?_
    rintro e w1 ⟨rfl, rfl⟩
    go_wp2_with fail
    refine (SortFunc_none _ _ _ _).mono ?_
    rintro e w2 ⟨rfl, rfl⟩
    go_wp2_with fail
    go_ret
    have e : srt ([] : List V) = [] := srt_short (by decide)
    rw [e]
    exact ⟨_, rfl, ⟨rfl, .inl ⟨rfl, rfl⟩⟩, Below.refl _ _⟩
  | some ad =>
    obtain ⟨b, o, rfl⟩ := hA ad rfl
    go_enter Tryz.func19, Tryz.ntmps19
    go_wp2_with fail
    refine (Clone_any b o c l _ hr HN.out).mono ?_
    rintro e w1 ⟨v1, rfl, ho1, hv1, hb1⟩
    obtain ⟨g, cap, rfl, hg0, hg1, hc1, hH⟩ := holds_down ho1 hv1
    have HO := Lib.hid ho1
    have HB := Lib.hid hb1
    clear hb1 ho1 hv1
    go_wp2_with fail
    refine (SortFunc_any g cap l _ hH hg1 HN.out).mono ?_
    rintro e w2 ⟨rfl, q, os, rfl⟩
    have HO2 := Lib.hid (own_sorted (q := q) os HO.out hlen)
    have HB2 := Lib.hid (below_sorted (q := q) (d := (srt l).toArray) os HB.out hg0 HB.out.size)
    rw [hlen] at HO2
    generalize sortWorldK encV 3 w1 g 0 q (srt l).toArray os = w2 at *
    clear hH
    go_wp2_with fail
    go_ret
    exact ⟨_, rfl, by rw [hlen]; exact HO2.out, HB2.out⟩
set_option maxHeartbeats 400000 in
theorem Sorted_ok (A : Option Addr) (c : Nat) (l : List V) (w : World) (hr : VReads w w.heap.size A l) (hA : Plain A) (hf : VFit l) (hn : l.length ≤ 1000000) (h0 : chk l = 0) :
    Calls Tryz.prog 8 #[.slice A l.length c] w fun e w' => ∃ v, e = .returned (.tuple #[v, .int .i64 0]) ∧ w'.ownsRow w.heap.size 35 3 v (srt l).length (vcells (srt l)) ∧ Below w.heap.size w w' := by
  have HN := Lib.hid hn
  have H0 := Lib.hid h0
  clear hn h0
  go_enter Tryz.func8, Tryz.ntmps8
  go_wp2_with fail
  refine (check_any A c l _ hr hf (by have := HN.out; unfold maxLen; omega)).mono ?_
  rw [H0.out]
  rintro e w1 ⟨rfl, hb1⟩
  have W1 := Lib.hid hb1
  clear hb1
  go_wp2_with fail
  refine (sortedBy_any A c l _ (hr.below W1.out W1.out.size) hA HN.out).mono ?_
  rintro e w2 ⟨v, rfl, ho, hb2⟩
  have HO := Lib.hid ho
  have W2 := Lib.hid (thn W1.out hb2)
  obtain ⟨A2, c2, rfl, hc2, _, _, _⟩ := own_reads ho
  have hbase := W1.out.size
  clear hb2 ho
  go_wp2_with fail
  exact bodyPost_ret (v := .tuple #[.slice A2 (srt l).length c2, .int .i64 0]) (by simp [results, Tryz.results8, go_sem]) rfl ⟨_, rfl, own_lower HO.out hbase, W2.out⟩
set_option maxHeartbeats 400000 in
theorem Sorted_err (A : Option Addr) (c : Nat) (l : List V) (w : World) (hr : VReads w w.heap.size A l) (hf : VFit l) (hn : l.length ≤ 1000000) (h0 : chk l ≠ 0) :
    Calls Tryz.prog 8 #[.slice A l.length c] w fun e w' => e = .returned (.tuple #[.slice none 0 0, .int .i64 (chk l)]) ∧ Below w.heap.size w w' := by
  have HN := Lib.hid hn
  have e1 : (chk l != 0) = true := by simp [h0]
  clear hn h0
  go_enter Tryz.func8, Tryz.ntmps8
  go_wp2_with fail
  refine (check_any A c l _ hr hf (by have := HN.out; unfold maxLen; omega)).mono ?_
  rintro e w1 ⟨rfl, hb1⟩
  have W1 := Lib.hid hb1
  clear hb1
  go_wp2_with fail
  exact bodyPost_ret (v := .tuple #[.slice none 0 0, .int .i64 (chk l)]) (by simp [results, Tryz.results8, go_sem]) rfl ⟨rfl, W1.out⟩
end Go.Proofs.YtmhddoikicapjaaGreatDoor
