/-
  CONTRACTS: the library's sort and Compact on a list of numbers that the call owns.
-/
import Derived.Test.YtcbcncaoabablaaGreatDoorGA17
import Derived.Test.YtcbcncaoabablaaGreatDoorSort
import Derived.Test.YtcbcncaoabablaaGreatDoorShelf
import Derived.Test.YtcbcncaoabablaaGreatDoorGA07
import Derived.Shelf.Slices.In.SortNone
namespace Go.Proofs.YtcbcncaoabablaaGreatDoor
open Go.RowKit Go.Deep Go.Sort Go.Lib

theorem heap_put {w : World} {g q : Nat} {cur : Array Value} {T : TypeId} (d : Array Int) (os : Array Obj) (h : w.heap[g]? = some (.cells cur T (0, 0))) :
    (grow (putRow (Value.int .i64) (Sort.ahead w q) g 0 d) os).heap[g]? = some (.cells (putCells (Value.int .i64) 0 d cur) T (0, 0)) := by
  have hlt : g < w.heap.size := by
    rcases Nat.lt_or_ge g w.heap.size with h' | h'
    · exact h'
    · rw [Array.getElem?_eq_none h'] at h; cases h
  rw [heap_grow_old _ _ (by simpa [putRow, mapBlock, Sort.ahead] using hlt)]
  simp [putRow, mapBlock, Sort.ahead, Array.getElem?_modify, h, onCells]
theorem put_take {cur : Array Value} (l : List Int) (h : l.length ≤ cur.size) : (putCells (Value.int .i64) 0 l.toArray cur).toList.take (l.length * 1) = icells l := by
  apply List.ext_getElem?
  intro j
  rw [List.getElem?_take, Array.getElem?_toList]
  unfold icells
  by_cases hj : j < l.length
  · have hjc : j < cur.size := by omega
    rw [if_pos (by omega)]
    simp only [putCells, Array.getElem?_mapIdx, Array.getElem?_eq_getElem hjc, Option.map_some]
    rw [if_pos (by simp; omega), Nat.sub_zero, List.getElem?_map, List.getElem?_eq_getElem hj]
    simp [hj]
  · rw [if_neg (by omega), List.getElem?_map, List.getElem?_eq_none (by omega)]; rfl
theorem put_grown {w : World} {g q : Nat} (d : Array Int) (os : Array Obj) : w.grownBy (grow (putRow (Value.int .i64) (Sort.ahead w q) g 0 d) os) (some g) := by
  have hs : (putRow (Value.int .i64) (Sort.ahead w q) g 0 d).heap.size = w.heap.size := by simp [putRow, mapBlock, Sort.ahead]
  refine ⟨rfl, rfl, rfl, ?_, fun k hk hne => ?_⟩
  · rw [size_grow, hs]; exact Nat.le_add_right _ _
  · rw [heap_grow_old _ _ (by rw [hs]; exact hk)]
    have hkg : g ≠ k := fun e => hne (by rw [e])
    simp [putRow, mapBlock, Sort.ahead, Array.getElem?_modify, hkg]
/-- a row of numbers that the call owns, with its block -/
def IRow (w : World) (g cap : Nat) (zs : List Int) : Prop := ∃ cur : Array Value, w.heap[g]? = some (.cells cur 3 (0, 0)) ∧ zs.length ≤ cap ∧ cap ≤ maxLen ∧ cur.size = cap ∧ cur.toList.take zs.length = icells zs
theorem IRow.holds {w : World} {g cap : Nat} {zs : List Int} (h : IRow w g cap zs) : Holds (Value.int .i64) w g 0 zs.toArray := by
  obtain ⟨cur, hh, hc, hm, hs, ht⟩ := h
  intro j hj
  have hB : Blk w g 3 cur := hh
  have hj' : j < zs.length := by simpa using hj
  rw [Nat.zero_add]
  refine ⟨?_, hB.frozen j⟩
  rw [hB.cell j]
  have h1 := congrArg (fun l => l[j]?) ht
  simp only [List.getElem?_take, if_pos hj', Array.getElem?_toList] at h1
  rw [h1]
  unfold icells
  rw [List.getElem?_map, List.getElem?_eq_getElem hj']
  simp [hj']
theorem IRow.lt {w : World} {g cap : Nat} {zs : List Int} (h : IRow w g cap zs) : g < w.heap.size := by
  obtain ⟨cur, hh, _⟩ := h
  rcases Nat.lt_or_ge g w.heap.size with h' | h'
  · exact h'
  · rw [Array.getElem?_eq_none h'] at hh; cases hh
theorem IRow.put {w : World} {g cap q : Nat} {zs ys : List Int} (h : IRow w g cap zs) (os : Array Obj) (hl : ys.length ≤ cap) : IRow (grow (putRow (Value.int .i64) (Sort.ahead w q) g 0 ys.toArray) os) g cap ys := by
  obtain ⟨cur, hh, hc, hm, hs, ht⟩ := h
  refine ⟨_, heap_put ys.toArray os hh, hl, hm, by simpa [putCells] using hs, ?_⟩
  have := put_take (cur := cur) ys (by omega)
  rwa [Nat.mul_one] at this
theorem IRow.of {w : World} {base g cap : Nat} {zs : List Int} (h : w.ownsRow base 3 1 (.slice (some ⟨g, 0, none⟩) zs.length cap) zs.length (icells zs)) : IRow w g cap zs := by
  rcases h.2 with ⟨e0, _⟩ | ⟨g', cap', cur, e0, hb, hg, hn, hm, hs, ht⟩
  · cases e0
  · injection e0 with e1 _ e3
    injection e1 with e1
    injection e1 with e1
    subst e1; subst e3
    rw [Nat.mul_one] at hs ht
    exact ⟨cur, hg, hn, hm, hs, ht⟩
abbrev srtI (zs : List Int) : List Int := zs.mergeSort fun x y => decide (x ≤ y)
theorem sortI_any (g cap : Nat) (zs : List Int) (w : World) (h : IRow w g cap zs) (hn : zs.length ≤ 1000000) :
    Calls Tryz.prog 32 #[.slice (some ⟨g, 0, none⟩) zs.length cap] w fun x w' => x = .returned (.tuple #[]) ∧ IRow w' g cap (srtI zs) ∧ w.grownBy w' (some g) := by
  have hsort := calls_of_every_depth fun D => AnyS.slices_Sort_int_in Tryz.sortI D g 0 cap zs w h.holds h.lt (by omega)
  refine hsort.mono fun x w' ⟨h1, q, os, h2⟩ => ⟨h1, ?_, ?_⟩
  · rw [h2]
    exact h.put os (by rw [List.length_mergeSort]; obtain ⟨_, _, hc, _⟩ := h; exact hc)
  · rw [h2]; exact put_grown _ os
theorem sortI_none (A : Option Addr) (cap : Nat) (w : World) : Calls Tryz.prog 32 #[.slice A 0 cap] w fun x w' => x = .returned (.tuple #[]) ∧ w' = w :=
  Any.slices_Sort_int_none Tryz.sortI A cap w
theorem IRow.take {w : World} {g cap k : Nat} {ys : List Int} (h : IRow w g cap ys) (hk : k ≤ ys.length) : IRow w g cap (ys.take k) := by
  obtain ⟨cur, hh, hc, hm, hs, ht⟩ := h
  refine ⟨cur, hh, by rw [List.length_take]; omega, hm, hs, ?_⟩
  have h1 := congrArg (List.take k) ht
  rw [List.take_take, Nat.min_eq_left hk] at h1
  rw [List.length_take, Nat.min_eq_left hk, h1]
  unfold icells
  rw [List.map_take]
theorem compactI_any (g cap : Nat) (zs : List Int) (w : World) (h : IRow w g cap zs) (hn : zs.length ≤ 1000000) :
    Calls Tryz.prog 33 #[.slice (some ⟨g, 0, none⟩) zs.length cap] w fun x w' => x = .returned (.slice (some ⟨g, 0, none⟩) (Lib.compact zs).length cap) ∧ IRow w' g cap (Lib.compact zs) ∧ w.grownBy w' (some g) := by
  have hle := Lib.compact_length_le zs
  have hc : zs.length ≤ cap := by obtain ⟨_, _, hc, _⟩ := h; exact hc
  refine (Tryz.slices_Compact_int g 0 cap zs w h.holds (by omega) hc).mono fun x w' ⟨h1, q, h2⟩ => ⟨h1, ?_, ?_⟩
  · have h3 := (h.put (q := q) (ys := Lib.compact zs ++ List.replicate (zs.length - (Lib.compact zs).length) 0) #[] (by simp; omega)).take (k := (Lib.compact zs).length) (by simp)
    rw [grow_empty] at h3
    rw [h2]
    simpa using h3
  · rw [h2, ← grow_empty (putRow _ _ _ _ _)]
    exact put_grown _ #[]
theorem compactI_none (A : Option Addr) (cap : Nat) (w : World) : Calls Tryz.prog 33 #[.slice A 0 cap] w fun x w' => x = .returned (.slice A 0 cap) ∧ w' = w :=
  Tryz.slices_Compact_int_empty A cap w
/-- of a list that does not fall Compact leaves each number once, rising -/
theorem compact_rises (zs : List Int) (hs : zs.Pairwise (· ≤ ·)) : ∀ m, m ≤ zs.length → (Lib.compactUpTo zs.toArray m).Pairwise (· < ·) ∧ ∀ x, x ∈ Lib.compactUpTo zs.toArray m ↔ x ∈ zs.take m := by
  intro m
  induction m with
  | zero => intro _; simp [Lib.compactUpTo]
  | succ m ih =>
    intro hm
    have hlt : m < zs.length := by omega
    obtain ⟨h1, h2⟩ := ih (by omega)
    rw [Lib.compactUpTo_succ, List.take_succ_eq_append_getElem hlt]
    have hd : zs.toArray[m]! = zs[m] := by simp [hlt]
    by_cases hk : Lib.keeps zs.toArray m = true
    · rw [if_pos hk, hd]
      refine ⟨?_, fun x => ?_⟩
      · rw [List.pairwise_append]
        refine ⟨h1, List.pairwise_singleton _ _, fun a ha b hb => ?_⟩
        rw [List.mem_singleton] at hb
        subst hb
        have ha2 := (h2 a).1 ha
        obtain ⟨i, hi, rfl⟩ := List.getElem_of_mem ha2
        rw [List.length_take] at hi
        rw [List.getElem_take]
        have hm1 : m - 1 < zs.length := by omega
        have hle1 : zs[i] ≤ zs[m - 1] := by
          by_cases e : i = m - 1
          · subst e; exact Int.le_refl _
          · exact List.pairwise_iff_getElem.1 hs i (m - 1) (by omega) hm1 (by omega)
        have hle2 : zs[m - 1] ≤ zs[m] := List.pairwise_iff_getElem.1 hs (m - 1) m hm1 hlt (by omega)
        have hne : zs[m] ≠ zs[m - 1] := fun e => by
          have := Lib.keeps_neg (d := zs.toArray) (m := m) (by omega) (by simp [hlt, hm1, e])
          rw [this] at hk; cases hk
        omega
      · rw [List.mem_append, List.mem_append, h2]
    · rw [if_neg hk, List.append_nil]
      refine ⟨h1, fun x => ?_⟩
      rw [h2, List.mem_append]
      constructor
      · exact fun h => .inl h
      · rintro (h | h)
        · exact h
        · rw [List.mem_singleton] at h
          subst h
          have h0 : 0 < m := by
            rcases Nat.eq_zero_or_pos m with e | e
            · subst e; exact absurd (Lib.keeps_lt_one zs.toArray 0 (by decide)) hk
            · exact e
          have hm1 : m - 1 < zs.length := by omega
          have he : zs[m] = zs[m - 1] := by
            rcases Decidable.em (zs[m] = zs[m - 1]) with e | e
            · exact e
            · exact absurd (Lib.keeps_pos (d := zs.toArray) (m := m) (by simpa [hlt, hm1] using e)) hk
          rw [he]
          exact List.mem_iff_getElem.2 ⟨m - 1, by rw [List.length_take]; omega, by rw [List.getElem_take]⟩
theorem cols_sorted {e : E} (h : leafyE e = true) : Lib.compact (srtI (allE e)) = clmE e := by
  have hs : (srtI (allE e)).Pairwise (· ≤ ·) := by
    have := List.pairwise_mergeSort (le := fun x y : Int => decide (x ≤ y)) (fun a b c h1 h2 => by simp at h1 h2 ⊢; omega) (fun a b => by simp; omega) (allE e)
    exact this.imp fun h => by simpa using h
  obtain ⟨h1, h2⟩ := compact_rises _ hs _ (Nat.le_refl _)
  have hc := clmE_spec e h
  refine rises_only h1 hc.1 fun x => ?_
  unfold Lib.compact
  rw [h2, hc.2, List.take_length, List.mem_mergeSort]
mutual
theorem leafy_of : ∀ (d : Nat) (e : E), shapedE d e = true → leafyE e = true
  | 0, e, h => by rw [shapedE_zero] at h; cases h
  | d + 1, .mk op n m k lit args rels, h => by
    rw [shapedE_succ, Bool.and_eq_true] at h
    rw [leafyE, Bool.and_eq_true]
    refine ⟨?_, leafyL_of d args h.2⟩
    rcases (node_cases h.1).2 with ⟨_, _, ha⟩ | ⟨ho, _⟩ | ⟨ho, _⟩ | ⟨ho, _⟩
    · have ha : args = [] := ha
      simp [ha]
    · have ho : op = 2 := ho
      simp [ho]
    · have ho : op = 3 := ho
      simp [ho]
    · have ho : 4 ≤ op := ho
      have : op ≠ 1 := by omega
      simp [this]
theorem leafyL_of : ∀ (d : Nat) (l : List E), shapedL d l = true → leafyL l = true
  | _, [], _ => rfl
  | d, e :: l, h => by
    rw [shapedL, Bool.and_eq_true] at h
    rw [leafyL, leafy_of d e h.1, leafyL_of d l h.2]; rfl
end
end Go.Proofs.YtcbcncaoabablaaGreatDoor
