/-
  SoI: CONTRACTS: the library's sort and Compact on a list of numbers that the call owns.
  CoP: CONTRACTS of scalar.Columns and scalar.Conjuncts.
-/
import Derived.Test.YtdiehgfldndgbaaGreatDoorGA18
import Derived.Test.YtdiehgfldndgbaaGreatDoorSort
import Derived.Test.YtdiehgfldndgbaaGreatDoorShelf
import Derived.Test.YtdiehgfldndgbaaGreatDoorGA07
import Derived.Shelf.Slices.In.SortNone
namespace Go.Proofs.YtdiehgfldndgbaaGreatDoor
open Go.RowKit Go.Deep Go.Sort Go.Lib

theorem heap_put {w : World} {g q : Nat} {cur : Array Value} {T : TypeId} (d : Array Int) (os : Array Obj) (h : w.heap[g]? = some (.cells cur T (0, 0))) :
    (grow (putRow (Value.int .i64) (Sort.ahead w q) g 0 d) os).heap[g]? = some (.cells (putCells (Value.int .i64) 0 d cur) T (0, 0)) := by
  have hlt : g < w.heap.size := by
    rcases Nat.lt_or_ge g w.heap.size with h' | h'
    · exact h'
    · rw [Array.getElem?_eq_none h'] at h; cases h
  rw [heap_grow_old _ _ (by simpa [putRow, mapBlock, Sort.ahead] using hlt)]
  simp [putRow, mapBlock, Sort.ahead, Array.getElem?_modify, h, onCells]
theorem put_take {cur : Array Value} (l : List Int) (h : l.length ≤ cur.size) : (putCells (Value.int .i64) 0 l.toArray cur).toList.take (l.length * 1) = icells l := by
  apply List.ext_getElem?
  intro j
  rw [List.getElem?_take, Array.getElem?_toList]
  unfold icells
  by_cases hj : j < l.length
  · have hjc : j < cur.size := by omega
    rw [if_pos (by omega)]
    simp only [putCells, Array.getElem?_mapIdx, Array.getElem?_eq_getElem hjc, Option.map_some]
    rw [if_pos (by simp; omega), Nat.sub_zero, List.getElem?_map, List.getElem?_eq_getElem hj]
    simp [hj]
  · rw [if_neg (by omega), List.getElem?_map, List.getElem?_eq_none (by omega)]; rfl
theorem put_grown {w : World} {g q : Nat} (d : Array Int) (os : Array Obj) : w.grownBy (grow (putRow (Value.int .i64) (Sort.ahead w q) g 0 d) os) (some g) := by
  have hs : (putRow (Value.int .i64) (Sort.ahead w q) g 0 d).heap.size = w.heap.size := by simp [putRow, mapBlock, Sort.ahead]
  refine ⟨rfl, rfl, rfl, ?_, fun k hk hne => ?_⟩
  · rw [size_grow, hs]; exact Nat.le_add_right _ _
  · rw [heap_grow_old _ _ (by rw [hs]; exact hk)]
    have hkg : g ≠ k := fun e => hne (by rw [e])
    simp [putRow, mapBlock, Sort.ahead, Array.getElem?_modify, hkg]
/-- a row of numbers that the call owns, with its block -/
def IRow (w : World) (g cap : Nat) (zs : List Int) : Prop := ∃ cur : Array Value, w.heap[g]? = some (.cells cur 3 (0, 0)) ∧ zs.length ≤ cap ∧ cap ≤ maxLen ∧ cur.size = cap ∧ cur.toList.take zs.length = icells zs
theorem IRow.holds {w : World} {g cap : Nat} {zs : List Int} (h : IRow w g cap zs) : Holds (Value.int .i64) w g 0 zs.toArray := by
  obtain ⟨cur, hh, hc, hm, hs, ht⟩ := h
  intro j hj
  have hB : Blk w g 3 cur := hh
  have hj' : j < zs.length := by simpa using hj
  rw [Nat.zero_add]
  refine ⟨?_, hB.frozen j⟩
  rw [hB.cell j]
  have h1 := congrArg (fun l => l[j]?) ht
  simp only [List.getElem?_take, if_pos hj', Array.getElem?_toList] at h1
  rw [h1]
  unfold icells
  rw [List.getElem?_map, List.getElem?_eq_getElem hj']
  simp [hj']
theorem IRow.lt {w : World} {g cap : Nat} {zs : List Int} (h : IRow w g cap zs) : g < w.heap.size := by
  obtain ⟨cur, hh, _⟩ := h
  rcases Nat.lt_or_ge g w.heap.size with h' | h'
  · exact h'
  · rw [Array.getElem?_eq_none h'] at hh; cases hh
theorem IRow.put {w : World} {g cap q : Nat} {zs ys : List Int} (h : IRow w g cap zs) (os : Array Obj) (hl : ys.length ≤ cap) : IRow (grow (putRow (Value.int .i64) (Sort.ahead w q) g 0 ys.toArray) os) g cap ys := by
  obtain ⟨cur, hh, hc, hm, hs, ht⟩ := h
  refine ⟨_, heap_put ys.toArray os hh, hl, hm, by simpa [putCells] using hs, ?_⟩
  have := put_take (cur := cur) ys (by omega)
  rwa [Nat.mul_one] at this
theorem IRow.of {w : World} {base g cap : Nat} {zs : List Int} (h : w.ownsRow base 3 1 (.slice (some ⟨g, 0, none⟩) zs.length cap) zs.length (icells zs)) : IRow w g cap zs := by
  rcases h.2 with ⟨e0, _⟩ | ⟨g', cap', cur, e0, hb, hg, hn, hm, hs, ht⟩
  · cases e0
  · injection e0 with e1 _ e3
    injection e1 with e1
    injection e1 with e1
    subst e1; subst e3
    rw [Nat.mul_one] at hs ht
    exact ⟨cur, hg, hn, hm, hs, ht⟩
abbrev srtI (zs : List Int) : List Int := zs.mergeSort fun x y => decide (x ≤ y)
theorem sortI_any (g cap : Nat) (zs : List Int) (w : World) (h : IRow w g cap zs) (hn : zs.length ≤ 1000000) :
    Calls Tryz.prog 91 #[.slice (some ⟨g, 0, none⟩) zs.length cap] w fun x w' => x = .returned (.tuple #[]) ∧ IRow w' g cap (srtI zs) ∧ w.grownBy w' (some g) := by
  have hsort := calls_of_every_depth fun D => AnyS.slices_Sort_int_in Tryz.sortI D g 0 cap zs w h.holds h.lt (by omega)
  refine hsort.mono fun x w' ⟨h1, q, os, h2⟩ => ⟨h1, ?_, ?_⟩
  · rw [h2]
    exact h.put os (by rw [List.length_mergeSort]; obtain ⟨_, _, hc, _⟩ := h; exact hc)
  · rw [h2]; exact put_grown _ os
theorem sortI_none (A : Option Addr) (cap : Nat) (w : World) : Calls Tryz.prog 91 #[.slice A 0 cap] w fun x w' => x = .returned (.tuple #[]) ∧ w' = w :=
  Any.slices_Sort_int_none Tryz.sortI A cap w
theorem IRow.take {w : World} {g cap k : Nat} {ys : List Int} (h : IRow w g cap ys) (hk : k ≤ ys.length) : IRow w g cap (ys.take k) := by
  obtain ⟨cur, hh, hc, hm, hs, ht⟩ := h
  refine ⟨cur, hh, by rw [List.length_take]; omega, hm, hs, ?_⟩
  have h1 := congrArg (List.take k) ht
  rw [List.take_take, Nat.min_eq_left hk] at h1
  rw [List.length_take, Nat.min_eq_left hk, h1]
  unfold icells
  rw [List.map_take]
theorem compactI_any (g cap : Nat) (zs : List Int) (w : World) (h : IRow w g cap zs) (hn : zs.length ≤ 1000000) :
    Calls Tryz.prog 92 #[.slice (some ⟨g, 0, none⟩) zs.length cap] w fun x w' => x = .returned (.slice (some ⟨g, 0, none⟩) (Lib.compact zs).length cap) ∧ IRow w' g cap (Lib.compact zs) ∧ w.grownBy w' (some g) := by
  have hle := Lib.compact_length_le zs
  have hc : zs.length ≤ cap := by obtain ⟨_, _, hc, _⟩ := h; exact hc
  refine (Tryz.slices_Compact_int g 0 cap zs w h.holds (by omega) hc).mono fun x w' ⟨h1, q, h2⟩ => ⟨h1, ?_, ?_⟩
  · have h3 := (h.put (q := q) (ys := Lib.compact zs ++ List.replicate (zs.length - (Lib.compact zs).length) 0) #[] (by simp; omega)).take (k := (Lib.compact zs).length) (by simp)
    rw [grow_empty] at h3
    rw [h2]
    simpa using h3
  · rw [h2, ← grow_empty (putRow _ _ _ _ _)]
    exact put_grown _ #[]
theorem compactI_none (A : Option Addr) (cap : Nat) (w : World) : Calls Tryz.prog 92 #[.slice A 0 cap] w fun x w' => x = .returned (.slice A 0 cap) ∧ w' = w :=
  Tryz.slices_Compact_int_empty A cap w
/-- of a list that does not fall Compact leaves each number once, rising -/
theorem compact_rises (zs : List Int) (hs : zs.Pairwise (· ≤ ·)) : ∀ m, m ≤ zs.length → (Lib.compactUpTo zs.toArray m).Pairwise (· < ·) ∧ ∀ x, x ∈ Lib.compactUpTo zs.toArray m ↔ x ∈ zs.take m := by
  intro m
  induction m with
  | zero => intro _; simp [Lib.compactUpTo]
  | succ m ih =>
    intro hm
    have hlt : m < zs.length := by omega
    obtain ⟨h1, h2⟩ := ih (by omega)
    rw [Lib.compactUpTo_succ, List.take_succ_eq_append_getElem hlt]
    have hd : zs.toArray[m]! = zs[m] := by simp [hlt]
    by_cases hk : Lib.keeps zs.toArray m = true
    · rw [if_pos hk, hd]
      refine ⟨?_, fun x => ?_⟩
      · rw [List.pairwise_append]
        refine ⟨h1, List.pairwise_singleton _ _, fun a ha b hb => ?_⟩
        rw [List.mem_singleton] at hb
        subst hb
        have ha2 := (h2 a).1 ha
        obtain ⟨i, hi, rfl⟩ := List.getElem_of_mem ha2
        rw [List.length_take] at hi
        rw [List.getElem_take]
        have hm1 : m - 1 < zs.length := by omega
        have hle1 : zs[i] ≤ zs[m - 1] := by
          by_cases e : i = m - 1
          · subst e; exact Int.le_refl _
          · exact List.pairwise_iff_getElem.1 hs i (m - 1) (by omega) hm1 (by omega)
        have hle2 : zs[m - 1] ≤ zs[m] := List.pairwise_iff_getElem.1 hs (m - 1) m hm1 hlt (by omega)
        have hne : zs[m] ≠ zs[m - 1] := fun e => by
          have := Lib.keeps_neg (d := zs.toArray) (m := m) (by omega) (by simp [hlt, hm1, e])
          rw [this] at hk; cases hk
        omega
      · rw [List.mem_append, List.mem_append, h2]
    · rw [if_neg hk, List.append_nil]
      refine ⟨h1, fun x => ?_⟩
      rw [h2, List.mem_append]
      constructor
      · exact fun h => .inl h
      · rintro (h | h)
        · exact h
        · rw [List.mem_singleton] at h
          subst h
          have h0 : 0 < m := by
            rcases Nat.eq_zero_or_pos m with e | e
            · subst e; exact absurd (Lib.keeps_lt_one zs.toArray 0 (by decide)) hk
            · exact e
          have hm1 : m - 1 < zs.length := by omega
          have he : zs[m] = zs[m - 1] := by
            rcases Decidable.em (zs[m] = zs[m - 1]) with e | e
            · exact e
            · exact absurd (Lib.keeps_pos (d := zs.toArray) (m := m) (by simpa [hlt, hm1] using e)) hk
          rw [he]
          exact List.mem_iff_getElem.2 ⟨m - 1, by rw [List.length_take]; omega, by rw [List.getElem_take]⟩
theorem cols_sorted {e : E} (h : leafyE e = true) : Lib.compact (srtI (allE e)) = clmE e := by
  have hs : (srtI (allE e)).Pairwise (· ≤ ·) := by
    have := List.pairwise_mergeSort (le := fun x y : Int => decide (x ≤ y)) (fun a b c h1 h2 => by simp at h1 h2 ⊢; omega) (fun a b => by simp; omega) (allE e)
    exact this.imp fun h => by simpa using h
  obtain ⟨h1, h2⟩ := compact_rises _ hs _ (Nat.le_refl _)
  have hc := clmE_spec e h
  refine rises_only h1 hc.1 fun x => ?_
  unfold Lib.compact
  rw [h2, hc.2, List.take_length, List.mem_mergeSort]
mutual
theorem leafy_of : ∀ (d : Nat) (e : E), shapedE d e = true → leafyE e = true
  | 0, e, h => by rw [shapedE_zero] at h; cases h
  | d + 1, .mk op n m k lit args rels, h => by
    rw [shapedE_succ, Bool.and_eq_true] at h
    rw [leafyE, Bool.and_eq_true]
    refine ⟨?_, leafyL_of d args h.2⟩
    rcases (node_cases h.1).2 with ⟨_, _, ha⟩ | ⟨ho, _⟩ | ⟨ho, _⟩ | ⟨ho, _⟩
    · have ha : args = [] := ha
      simp [ha]
    · have ho : op = 2 := ho
      simp [ho]
    · have ho : op = 3 := ho
      simp [ho]
    · have ho : 4 ≤ op := ho
      have : op ≠ 1 := by omega
      simp [this]
theorem leafyL_of : ∀ (d : Nat) (l : List E), shapedL d l = true → leafyL l = true
  | _, [], _ => rfl
  | d, e :: l, h => by
    rw [shapedL, Bool.and_eq_true] at h
    rw [leafyL, leafy_of d e h.1, leafyL_of d l h.2]; rfl
end
end Go.Proofs.YtdiehgfldndgbaaGreatDoor
namespace Go.Proofs.YtdiehgfldndgbaaGreatDoor
open Go.RowKit Go.Deep

theorem IRow.rd {w : World} {g cap : Nat} {zs : List Int} {P : Nat → Prop} (h : IRow w g cap zs) (hg : P g) : IRd w P (some ⟨g, 0, none⟩) zs := fun _ => ⟨g, 0, rfl, hg, fun i x hx => by
  have h1 := (h.holds i (by simpa using (List.getElem?_eq_some_iff.1 hx).1)).1
  obtain ⟨hi, rfl⟩ := List.getElem?_eq_some_iff.1 hx
  rw [h1]
  simp [hi]⟩
/-- what Columns gives -/
def colS (e : E) : List Int := if formE e = true then clmE e else []
set_option maxHeartbeats 4000000 in
set_option maxRecDepth 100000 in
theorem ColumnsP_any (e : E) (A R : Option Addr) (c d : Nat) (w : World) (hG : GS w) (hE : EHas w e A R) :
    Calls Tryz.prog 57 #[e.val A c R d] w fun x w' => ∃ (A' : Option Addr) (c' : Nat), x = .returned (.tuple #[.slice A' (colS e).length c', .int .i64 (ckE e)]) ∧ IRd w' (NwB w.heap.size w'.heap.size) A' (colS e) ∧ Below w.heap.size w w' := by
  have HK : Hid (∀ g w1, Blk w1 g 30 #[.int .i64 e.op, .int .i64 e.n, .int .i64 e.m, .int .i64 e.kind, .int .i64 e.lit.k, .int .i64 e.lit.n, .string e.lit.s, .slice A e.args.length c, .slice R e.rels.length d] → Below w.heap.size w w1 →
      Calls Tryz.prog 46 #[.slice (some ⟨g, 0, none⟩) 1 1] w1 fun x w' => x = .returned (.int .i64 (ckE e)) ∧ Below w1.heap.size w1 w') := Lib.hid fun g w1 k hb => by
    have h := checkE_any (some ⟨g, 0, none⟩) 1 [e] w1 (by simp) (fun x hx => by rw [List.mem_singleton] at hx; subst hx; exact ⟨hE.n, hE.f⟩) (hG.thn hb) (LOk.one k k.lt (hE.below hb).a (hE.below hb).r)
    rw [cksE_one] at h
    exact h
  have HB := Lib.hid (Blk.new w 30 #[.int .i64 e.op, .int .i64 e.n, .int .i64 e.m, .int .i64 e.kind, .int .i64 e.lit.k, .int .i64 e.lit.n, .string e.lit.s, .slice A e.args.length c, .slice R e.rels.length d])
  rcases ckE_cases e with ⟨hq, hc⟩ | ⟨hq, hc⟩
  · have hf := formE_iff.1 hq
    have HC : Hid (colS e = clmE e ∧ Lib.compact (srtI (allE e)) = clmE e) := Lib.hid ⟨if_pos hq, cols_sorted (leafy_of 24 e hf.1)⟩
    have hal := Nat.le_trans (allE_len e) hf.2
    have HTh : Hid (∀ g w1, w.heap.size ≤ g → Below w.heap.size w w1 → CS w1 g (.slice none 0 0) [] → Calls Tryz.prog 89 #[e.val A c R d, .func (.func 90) #[] #[.pointer (some ⟨g, 0, none⟩)]] w1 fun x w' => x = .returned (.tuple #[]) ∧ ∃ v', CS w' g v' ([] ++ allE e) ∧ CK g (.slice none 0 0) v' w1 w') := Lib.hid fun g w1 hg hb hS =>
      through_any 100000 e A R c d g _ [] w1 (by omega) (Nat.le_refl _) hS (by simp; omega) (hE.a.kept (fun b h => hb.block b h) fun b h => Nat.lt_of_lt_of_le h hg)
    have hmf : ∀ (fn : Fn) (first cap : Array Value) (w : World), (Instr.makeFunc fn first cap).run Tryz.prog w = .ok (.func fn first cap) w := fun _ _ _ _ => rfl
    rw [hc] at HK ⊢
    clear hG hE hq hc hf
    rw [HC.out.1]
    unfold E.val at HTh ⊢
    go_enter Tryz.func57, Tryz.ntmps57
    go_wp2_with fail
    refine (HK.out _ _ (Blk.new' (by simp)) (al (al (Below.refl _ _) _) _)).mono ?_
    rintro x w2 ⟨rfl, hb2⟩
    have H2 : Hid (Below w.heap.size w (w2.alloc (.cells #[.slice none 0 0] 39)) ∧ Blk (w2.alloc (.cells #[.slice none 0 0] 39)) w.heap.size 30 #[.int .i64 e.op, .int .i64 e.n, .int .i64 e.m, .int .i64 e.kind, .int .i64 e.lit.k, .int .i64 e.lit.n, .string e.lit.s, .slice A e.args.length c, .slice R e.rels.length d] ∧ w.heap.size + 1 ≤ w2.heap.size) := Lib.hid ⟨al (thn (al (al (Below.refl w.heap.size w) _) _) hb2) _, ((HB.out.alloc _).below hb2 (by simp; omega)).alloc _, by have := hb2.size; simp at this; omega⟩
    have HT := Lib.hid (HTh.out w2.heap.size (w2.alloc (.cells #[.slice none 0 0] 39)) (by have := H2.out.2.2; omega) H2.out.1 ⟨Blk.new _ _ _, rfl, .inl ⟨rfl, rfl⟩⟩)
    clear hb2 HK HTh
    have hq := H2.out.2.1
    have x0 := hq.cell 0
    have x1 := hq.cell 1
    have x2 := hq.cell 2
    have x3 := hq.cell 3
    have x4 := hq.cell 4
    have x5 := hq.cell 5
    have x6 := hq.cell 6
    have x7 := hq.cell 7
    have x8 := hq.cell 8
    simp only [List.getElem?_toArray, List.getElem?_cons_succ, List.getElem?_cons_zero] at x0 x1 x2 x3 x4 x5 x6 x7 x8
    clear hq
    go_wp2_with fail
    refine HT.out.mono ?_
    rintro x w3 ⟨rfl, v3, hS3, hK3⟩
    have hBg := hS3.b
    have hsz2 := H2.out.2.2
    have HB3 : Hid (Below w.heap.size w w3) := Lib.hid ⟨hK3.os.trans H2.out.1.os, hK3.tape.trans H2.out.1.tape, hK3.output.trans H2.out.1.output, Nat.le_trans H2.out.1.size hK3.size, fun b hb => (hK3.block b (Nat.lt_of_lt_of_le hb H2.out.1.size) (by omega) (by simp [Value.ownBlock])).trans (H2.out.1.block b hb)⟩
    have y0 := hBg.cell 0
    simp only [List.getElem?_toArray, List.getElem?_cons_zero] at y0
    rw [List.nil_append] at hS3
    rcases hS3.r.2 with ⟨hv, h0⟩ | ⟨b, cap, cur, hv, hbb, _⟩
    · subst hv
      have hnil : clmE e = [] := by
        have h1 := HC.out.2
        rw [List.eq_nil_of_length_eq_zero h0] at h1
        rw [← h1]
        simp [Lib.compact, Lib.compactUpTo, srtI]
      have HN := Lib.hid hnil
      clear hS3 hK3 HT H2 HC hBg hnil h0
      go_wp2_with fail
      refine (sortI_none none 0 _).mono ?_
      rintro x w4 ⟨rfl, rfl⟩
      go_wp2_with fail
      refine (compactI_none none 0 _).mono ?_
      rintro x w5 ⟨rfl, rfl⟩
      go_wp2_with fail
      go_ret2
      exact ⟨none, 0, by rw [HN.out]; rfl, by rw [HN.out]; exact fun h => absurd h (Nat.lt_irrefl 0), HB3.out⟩
    · subst hv
      have HI := Lib.hid (IRow.of hS3.r)
      have HBg := Lib.hid hBg
      have hln : (allE e).length ≤ 1000000 := by omega
      have hne : b ≠ w2.heap.size := by omega
      have hbw : w.heap.size ≤ b := by omega
      have HSo := Lib.hid (sortI_any b cap (allE e) w3 HI.out hln)
      clear hS3 hK3 HT H2 hBg HI
      have hls : (srtI (allE e)).length = (allE e).length := List.length_mergeSort ..
      have HLs := Lib.hid hls
      have HCo : Hid (∀ w4, IRow w4 b cap (srtI (allE e)) → Calls Tryz.prog 92 #[.slice (some ⟨b, 0, none⟩) (allE e).length cap] w4 fun x w' => x = .returned (.slice (some ⟨b, 0, none⟩) (clmE e).length cap) ∧ IRow w' b cap (clmE e) ∧ w4.grownBy w' (some b)) := Lib.hid fun w4 h4 => by
        have r := compactI_any b cap (srtI (allE e)) w4 h4 (by rw [HLs.out]; omega)
        rw [HC.out.2, HLs.out] at r
        exact r
      clear hls HLs HC hal
      generalize (allE e).length = n at *
      go_wp2_with fail
      refine HSo.out.mono ?_
      rintro x w4 ⟨rfl, hI4, hg4⟩
      have H4 := Lib.hid (And.intro hI4 (And.intro (HB3.out.grown hg4 HB3.out.size (fun g h => by injection h with h; omega)) (HBg.out.grown hg4 (fun h => by injection h with h; omega))))
      clear hI4 hg4 HSo y0
      have y0 := H4.out.2.2.cell 0
      simp only [List.getElem?_toArray, List.getElem?_cons_zero] at y0
      have HC4 := Lib.hid (HCo.out w4 H4.out.1)
      clear HCo
      go_wp2_with fail
      refine HC4.out.mono ?_
      rintro x w5 ⟨rfl, hI5, hg5⟩
      have H5 := Lib.hid (And.intro (hI5.rd (P := NwB w.heap.size w5.heap.size) ⟨hbw, hI5.lt⟩) (H4.out.2.1.grown hg5 H4.out.2.1.size (fun g h => by injection h with h; omega)))
      clear hI5 hg5 HC4 y0
      go_wp2_with fail
      go_ret2
      exact ⟨_, _, rfl, H5.out.1, H5.out.2⟩
  · have hcb : (ckE e != 0) = true := by rw [hc]; rfl
    have HC : Hid (colS e = []) := Lib.hid (if_neg (by rw [hq]; decide))
    rw [HC.out]
    generalize ckE e = q at *
    clear hG hE hq hc
    unfold E.val
    go_enter Tryz.func57, Tryz.ntmps57
    go_wp2_with fail
    refine (HK.out _ _ (Blk.new' (by simp)) (al (al (Below.refl _ _) _) _)).mono ?_
    rintro x w2 ⟨rfl, hb2⟩
    have H2 := Lib.hid (thn (al (al (Below.refl w.heap.size w) _) _) hb2)
    clear hb2 HK
    go_wp2_with fail
    go_ret2
    exact ⟨none, 0, rfl, fun h => absurd h (Nat.lt_irrefl 0), H2.out⟩
end Go.Proofs.YtdiehgfldndgbaaGreatDoor
