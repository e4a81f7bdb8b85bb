/-
  PARTS of chosen's proof: what a round keeps, and what has been collected.
-/
import Derived.Test.YtapnnheggjahlaaGreatDoorRun
import Derived.Test.YtapnnheggjahlaaGreatDoorGG
namespace Go.Proofs.YtapnnheggjahlaaGreatDoor
open Go.RowKit

/-- below n all but block Bo stands -/
def Kp0 (n Bo : Nat) (A B : World) : Prop := B.os = A.os ∧ B.tape = A.tape ∧ B.output = A.output ∧ A.heap.size ≤ B.heap.size ∧ ∀ k, k < n → k ≠ Bo → B.heap[k]? = A.heap[k]?
theorem Kp0.refl (n Bo : Nat) (A : World) : Kp0 n Bo A A := ⟨rfl, rfl, rfl, Nat.le_refl _, fun _ _ _ => rfl⟩
theorem Kp0.trans {n Bo : Nat} {A B C : World} (h : Kp0 n Bo A B) (k : Kp0 n Bo B C) : Kp0 n Bo A C :=
  ⟨k.1.trans h.1, k.2.1.trans h.2.1, k.2.2.1.trans h.2.2.1, Nat.le_trans h.2.2.2.1 k.2.2.2.1, fun j h1 h2 => (k.2.2.2.2 j h1 h2).trans (h.2.2.2.2 j h1 h2)⟩
theorem Kp0.put {n Bo : Nat} (W : World) (l : Nat) (o : Obj) (hl : n ≤ l) : Kp0 n Bo W (W.putObj l o) :=
  ⟨rfl, rfl, rfl, by simp [World.putObj], fun k h1 _ => World.putObj_heap_other (by omega)⟩
theorem Kp0.of_below {n Bo : Nat} {A B : World} (hb : Below A.heap.size A B) (hn : n ≤ A.heap.size) : Kp0 n Bo A B := ⟨hb.os, hb.tape, hb.output, hb.size, fun k h1 _ => hb.block k (by omega)⟩
theorem Kp0.set_ {n Bo : Nat} (W : World) (i : Nat) (u : Value) : Kp0 n Bo W (W.setCell ⟨Bo, i, none⟩ u) :=
  ⟨rfl, rfl, rfl, by simp [World.setCell], fun k _ h2 => Below.heap_setCell _ _ _ _ (by simpa using h2)⟩
theorem Kp0.grown {n Bo : Nat} {A B : World} {row : Option Nat} (hg : A.grownBy B row) (hn : n ≤ A.heap.size) (hr : ∀ r, row = some r → n ≤ r) : Kp0 n Bo A B :=
  ⟨hg.os, hg.tape, hg.output, hg.size, fun k h1 _ => hg.block k (by omega) (fun e => by have := hr k e.symm; omega)⟩
theorem Kp0.cell {n Bo : Nat} {A B : World} (h : Kp0 n Bo A B) {b o : Nat} (hb : b < n) (hB : b ≠ Bo) : B.cell? ⟨b, o, none⟩ = A.cell? ⟨b, o, none⟩ := by
  simp only [World.cell?, h.2.2.2.2 b hb hB]
theorem Kp0.blk {n Bo : Nat} {A B : World} (h : Kp0 n Bo A B) {b : Nat} {T : TypeId} {cs : Array Value} (hb : b < n) (hB : b ≠ Bo) (hk : Blk A b T cs) : Blk B b T cs := (h.2.2.2.2 b hb hB).trans hk
theorem Kp0.own {n Bo base : Nat} {A B : World} (h : Kp0 n Bo A B) (hn : A.heap.size ≤ n) (hB : Bo < base) {v : Value} {r : List V} (ho : OwnR A base v r) : OwnR B base v r := by
  refine ⟨ho.1, ho.2.imp id fun ⟨b, cap, cur, e, hb, hh, x⟩ => ⟨b, cap, cur, e, hb, ?_, x⟩⟩
  have hlt : b < A.heap.size := by
    rcases Nat.lt_or_ge b A.heap.size with h1 | h1
    · exact h1
    · rw [Array.getElem?_eq_none h1] at hh; cases hh
  exact (h.2.2.2.2 b (by omega) (by omega)).trans hh
theorem Kp0.owns {n Bo base : Nat} {A B : World} (h : Kp0 n Bo A B) (hn : A.heap.size ≤ n) (hB : Bo < base) {vs : List Value} {S : List (List V)} (ho : OwnRs A base vs S) : OwnRs B base vs S :=
  ⟨ho.1, fun i v r hv hr => h.own hn hB (ho.2 i v r hv hr)⟩
theorem OwnRs.sub {w : World} {base : Nat} {vs : List Value} {S : List (List V)} (h : OwnRs w base vs S) (f n : Nat) : OwnRs w base ((vs.drop f).take n) ((S.drop f).take n) := by
  refine ⟨by simp [h.1], fun i v r hv hr => ?_⟩
  rw [List.getElem?_take] at hv hr
  by_cases hi : i < n
  · rw [if_pos hi, List.getElem?_drop] at hv hr
    exact h.2 _ v r hv hr
  · rw [if_neg hi] at hv; cases hv
theorem OwnRs.app {w : World} {base : Nat} {vs vs' : List Value} {S S' : List (List V)} (h : OwnRs w base vs S) (h' : OwnRs w base vs' S') : OwnRs w base (vs ++ vs') (S ++ S') := by
  refine ⟨by simp [h.1, h'.1], fun i v r hv hr => ?_⟩
  by_cases hi : i < vs.length
  · rw [List.getElem?_append_left hi] at hv
    rw [List.getElem?_append_left (by rw [← h.1]; exact hi)] at hr
    exact h.2 i v r hv hr
  · rw [List.getElem?_append_right (by omega)] at hv
    rw [List.getElem?_append_right (by rw [← h.1]; omega), ← h.1] at hr
    exact h'.2 _ v r hv hr
theorem OwnRs.oneCell {w : World} {base : Nat} {vs : List Value} {S : List (List V)} (h : OwnRs w base vs S) : ∀ u ∈ vs, u.oneCell' = true := fun u hu => by
  obtain ⟨i, hi, e⟩ := List.getElem_of_mem hu
  have h1 := h.2 i u (S[i]'(by rw [← h.1]; exact hi)) (by simp [hi, e]) (by simp [show i < S.length by rw [← h.1]; exact hi])
  obtain ⟨A, c, e2, _⟩ := own_reads h1
  exact oneCell_slice e2
/-- a part of a list of slice values in block g -/
theorem reads_sub {w : World} {g B : Nat} {T : TypeId} {vs : List Value} (h : Blk w g T vs.toArray) (hB : g < B) (f n : Nat) (hn : f + n ≤ vs.length) : Reads w B 1 (some ⟨g, f, none⟩) n ((vs.drop f).take n) := by
  refine ⟨by simp; omega, fun _ => ⟨_, rfl, hB, fun j u hj => ?_⟩⟩
  rw [List.getElem?_take] at hj
  by_cases hi : j < n
  · rw [if_pos hi, List.getElem?_drop] at hj
    rw [addN, h.cell]
    simpa using hj
  · rw [if_neg hi] at hj; cases hj
theorem seg_len {α : Type} {n : Nat} (x : Seg n) (S : List α) (h : S.length = n) : (x.of S).length = x.t - x.f := by
  have := x.h1; have := x.h2
  simp [Seg.of]; omega
theorem seg_take {α : Type} {n : Nat} (x : Seg n) (S : List α) (m : Nat) (h : m ≤ x.t - x.f) : (x.of S).take m = (S.drop x.f).take m := by
  unfold Seg.of
  rw [List.take_take]
  congr 1
  omega
theorem seg_head {n : Nat} (x : Seg n) (S : List (List V)) (h : S.length = n) (hl : x.f < S.length) : (x.of S).headD [] = S[x.f] := by
  have h := h.trans rfl
  have := x.h1
  unfold Seg.of
  rw [List.drop_eq_getElem_cons hl, show x.t - x.f = (x.t - x.f - 1) + 1 by omega, List.take_succ_cons]
  rfl
/-- the rows that a run gives -/
def runTake (f : Nat → Nat → Nat) (L2 : List (List V)) (run : List (List V)) : List (List V) := run.take (f run.length (cnt (rowS (run.headD [])) L2))
theorem runsF_of {S : List (List V)} {vs : List Value} {w W : World} {n Bo base bl bb g cap : Nat} {T : TypeId} (hk : Kp0 n Bo w W) (hn : w.heap.size ≤ n) (hBo : Bo < base) (hbl : bl < n) (hbl2 : bl ≠ Bo) (hbb : bb < n) (hbb2 : bb ≠ Bo) (hg : g < n) (hg2 : g ≠ Bo)
    (h1 : w.cell? ⟨bl, 0, none⟩ = some (.slice (some ⟨g, 0, none⟩) S.length cap)) (h2 : w.cell? ⟨bb, 0, none⟩ = some (.func (.func 61) #[] #[])) (h3 : Blk w g T vs.toArray) (h4 : OwnRs w base vs S) (hP : ∀ r ∈ S, OkR r ∧ r.length ≤ maxLen) :
    RunF (fun r => OkR r ∧ r.length ≤ maxLen) cmpR S bl bb g cap W where
  box := (hk.cell hbl hbl2).trans h1
  ord := by
    obtain ⟨gf, cb, e, he, hc⟩ := compare_isOrd W
    injection e with e1 _ e2
    injection e1 with e1
    subst e1 e2
    exact ⟨_, _, (hk.cell hbb hbb2).trans h2, he, fun A A' c1 c2 a b => hc W (Below.refl _ _) A A' c1 c2 a b⟩
  rows := fun i hi => by
    have hiv : i < vs.length := by rw [h4.1]; exact hi
    have h5 := hk.own hn hBo (h4.2 i vs[i] S[i] (by simp [hiv]) (by simp [hi]))
    obtain ⟨A, c, e, _, _, hr, _⟩ := own_reads h5
    refine ⟨A, c, ?_, hr, hP _ (List.getElem_mem hi)⟩
    rw [hk.cell hg hg2, h3.cell i]
    simp [hiv, e]
theorem CMap.same {w W : World} {b n : Nat} {L : List (List V)} (h : CMap w b n L) (e : W.heap[b]? = w.heap[b]?) : CMap W b n L := by
  obtain ⟨D, ⟨es, clock, h1, h2⟩, h3⟩ := h
  exact ⟨D, ⟨es, clock, e.trans h1, h2⟩, h3⟩
theorem CMap.lt {w : World} {b n : Nat} {L : List (List V)} (h : CMap w b n L) : b < w.heap.size := by
  obtain ⟨D, ⟨es, clock, h1, _⟩, _⟩ := h
  rcases Nat.lt_or_ge b w.heap.size with h' | h'
  · exact h'
  · rw [Array.getElem?_eq_none h'] at h1; cases h1
set_option maxRecDepth 100000 in
theorem CMap.look {w : World} {b n : Nat} {L : List (List V)} (h : CMap w b n L) (r : List V) (hr : r.length ≤ 1000000 ∧ ∀ v ∈ r, v.fine) :
    (Instr.lookup 93 (.map (some b)) (.string ⟨(rowS r).toArray⟩) false).run Tryz.prog w = .ok (.int .i64 (cnt (rowS r) L)) w := by
  obtain ⟨D, h1, h2⟩ := h
  obtain ⟨c, hrun, hat, _⟩ := h1.lookup_int (Maps.string_keyed Tryz.underlying9) Tryz.underlying93 Tryz.underlying3 (Tryz.zeroValue3 _) (keyS r hr)
  rw [h2.1] at hat
  injection hat with hat
  injection hat with _ hat
  rw [hrun, hat]
theorem flat_len {n : Nat} (f : Nat → Nat → Nat) (L2 S : List (List V)) (h : S.length = n) : ∀ pre : List (Seg n), ((pre.map fun x => runTake f L2 (x.of S)).flatten).length ≤ pre.length * n
  | [] => by simp
  | x :: pre => by
    have ih := flat_len f L2 S h pre
    have h1 : (runTake f L2 (x.of S)).length ≤ n := by
      unfold runTake
      have h2 := seg_len x S h
      have h3 := x.h2
      rw [List.length_take]
      omega
    rw [List.map_cons, List.flatten_cons, List.length_append, List.length_cons, Nat.add_mul, Nat.one_mul]
    omega
theorem run_take {n : Nat} (f : Nat → Nat → Nat) (L2 S : List (List V)) (h : S.length = n) (x : Seg n) (hl : x.f < S.length) (hf : f (x.t - x.f) (cnt (rowS S[x.f]) L2) ≤ x.t - x.f) :
    runTake f L2 (x.of S) = (S.drop x.f).take (f (x.t - x.f) (cnt (rowS S[x.f]) L2)) := by
  unfold runTake
  rw [seg_len x S h, seg_head x S h hl, seg_take x S _ hf]
theorem Kp0.low {n Bo : Nat} {A B : World} (h : Kp0 n Bo A B) (hB : Bo ≤ n) : Below Bo A B := ⟨h.1, h.2.1, h.2.2.1, h.2.2.2.1, fun k hk => h.2.2.2.2 k (by omega) (by omega)⟩
theorem Kp0.keeps {n : Nat} {A B : World} (hb : Below A.heap.size A B) : KeepsFrom n A B := ⟨hb.size, fun k o _ hk _ => by
  have hlt : k < A.heap.size := by
    rcases Nat.lt_or_ge k A.heap.size with h' | h'
    · exact h'
    · rw [Array.getElem?_eq_none h'] at hk; cases hk
  exact (hb.block k hlt).trans hk⟩
theorem own_slice {w : World} {base : Nat} {e : TypeId} {size n : Nat} {v : Value} {xs : List Value} (h : w.ownsRow base e size v n xs) : ∃ ao c, v = .slice ao n c := by
  rcases h.2 with ⟨rfl, rfl⟩ | ⟨g, cap, cur, rfl, _⟩
  · exact ⟨_, _, rfl⟩
  · exact ⟨_, _, rfl⟩
end Go.Proofs.YtapnnheggjahlaaGreatDoor
