/-
  CONTRACTS for right rows: no error; and headers of lists of rows, moved by append.
-/
import Derived.Test.YtapnnheggjahlaaGreatDoorGO
import Derived.Test.YtapnnheggjahlaaGreatDoorLRB
import Derived.Test.YtapnnheggjahlaaGreatDoorLRS
import Derived.Test.YtapnnheggjahlaaGreatDoorTms
import Derived.Test.YtapnnheggjahlaaGreatDoorGM
namespace Go.Proofs.YtapnnheggjahlaaGreatDoor
open Go.RowKit

/-- the headers of a list of rows -/
theorem LReads.hdr {w : World} {B : Nat} {A : Option Addr} {L : List (List V)} (h : LReads w B A L) : ∃ vs, Reads w B 1 A L.length vs ∧ RowsR w B vs L := by
  rcases Nat.eq_zero_or_pos L.length with h0 | h0
  · have : L = [] := List.length_eq_zero_iff.1 h0
    subst this
    exact ⟨[], ⟨rfl, fun h => absurd h (by simp)⟩, rfl, fun i r h => by cases h⟩
  · obtain ⟨b, o, rfl, hb, hc⟩ := h h0
    obtain ⟨vs, hl, hp⟩ := list_of (p := fun i x => w.cell? ⟨b, o + i, none⟩ = some x ∧ ∀ r, L[i]? = some r → ∃ Ar c, x = .slice Ar r.length c ∧ Plain Ar ∧ VReads w B Ar r) L.length (fun i hi => by
      obtain ⟨Ar, c, h1, h2, h3⟩ := hc i _ (List.getElem?_eq_getElem hi)
      exact ⟨_, h1, fun r hr => by rw [List.getElem?_eq_getElem hi] at hr; cases hr; exact ⟨Ar, c, rfl, h2, h3⟩⟩)
    refine ⟨vs, ⟨by omega, fun _ => ⟨_, rfl, hb, fun j u hj => ?_⟩⟩, hl, fun i r hr => ?_⟩
    · rw [addN]; exact (hp j u hj).1
    · have hi : i < vs.length := by
        rcases Nat.lt_or_ge i L.length with h | h
        · omega
        · rw [List.getElem?_eq_none h] at hr; cases hr
      obtain ⟨Ar, c, e, h2, h3⟩ := (hp i _ (List.getElem?_eq_getElem hi)).2 r hr
      exact ⟨Ar, c, by rw [List.getElem?_eq_getElem hi, e], h2, h3⟩
theorem RowsR.app {w : World} {B : Nat} {vs vs' : List Value} {S S' : List (List V)} (h : RowsR w B vs S) (h' : RowsR w B vs' S') : RowsR w B (vs ++ vs') (S ++ S') := by
  refine ⟨by rw [List.length_append, List.length_append, h.1, h'.1], fun i r hr => ?_⟩
  rcases Nat.lt_or_ge i S.length with hi | hi
  · rw [List.getElem?_append_left hi] at hr
    rw [List.getElem?_append_left (by rw [h.1]; exact hi)]
    exact h.2 i r hr
  · rw [List.getElem?_append_right hi] at hr
    rw [List.getElem?_append_right (by rw [h.1]; exact hi), h.1]
    exact h'.2 _ r hr
theorem RowsR.cell1 {w : World} {B : Nat} {vs : List Value} {S : List (List V)} (h : RowsR w B vs S) : ∀ u ∈ vs, u.oneCell' = true := fun u hu => by
  obtain ⟨i, hi, rfl⟩ := List.getElem_of_mem hu
  have hs : i < S.length := by rw [← h.1]; exact hi
  obtain ⟨Ar, c, e, -, -⟩ := h.2 i _ (List.getElem?_eq_getElem hs)
  rw [List.getElem?_eq_getElem hi] at e
  rw [Option.some.inj e]; rfl
theorem RowsR.grown {w w' : World} {B : Nat} {vs : List Value} {S : List (List V)} {row : Option Nat} (h : RowsR w B vs S) (hg : w.grownBy w' row) (hB : B ≤ w.heap.size) (hr : ∀ g, row = some g → B ≤ g) : RowsR w' B vs S :=
  h.below ((Below.refl B w).grown hg hB hr)

theorem Canonical_nice (A : Option Addr) (c m : Nat) (L : List (List V)) (w : World) (hr : LReads w w.heap.size A L) (h : NiceL m L) (hm : m ≤ 20000) :
    Calls Tryz.prog 25 #[.slice A L.length c] w fun e w' => ∃ A' c', e = .returned (.tuple #[.slice A' (canon L).length c', .int .i64 0]) ∧ LReads w' w'.heap.size A' (canon L) ∧ Below w.heap.size w w' := by
  have h0 := h.chk hm
  exact (Canonical_ok A c L w hr (h.inL (by unfold maxLen; omega)) h0).mono fun e w' ⟨g, vs, h1, h2, h3, h4, h5⟩ => ⟨_, _, by rw [srtC_len]; exact h1, h4.lreads h3, h5⟩
theorem Same_nice (A A' : Option Addr) (c c' m m' : Nat) (L L2 : List (List V)) (w : World) (hG : G w) (hr : LReads w w.heap.size A L) (hr2 : LReads w w.heap.size A' L2) (h : NiceL m L) (h' : NiceL m' L2) (hm : m ≤ 20000) (hm' : m' ≤ 20000) :
    Calls Tryz.prog 29 #[.slice A L.length c, .slice A' L2.length c'] w fun e w' => e = .returned (.tuple #[.bool (decide (canon L = canon L2)), .int .i64 0]) ∧ Below w.heap.size w w' :=
  Same_ok A A' c c' L L2 w hG hr hr2 (h.inL (by unfold maxLen; omega)) (h'.inL (by unfold maxLen; omega)) (h.chk2 h' hm hm')
theorem Times_nice (A A' : Option Addr) (c c' m : Nat) (L : List (List V)) (r : List V) (w : World) (hG : G w) (hr : LReads w w.heap.size A L) (hA : Plain A') (hr2 : VReads w w.heap.size A' r) (h : NiceL m L) (h' : NiceL 1 [r]) (hm : m ≤ 20000) :
    Calls Tryz.prog 30 #[.slice A L.length c, .slice A' r.length c'] w fun e w' => e = .returned (.tuple #[.int .i64 (L.count r : Nat), .int .i64 0]) ∧ Below w.heap.size w w' :=
  Times_ok A A' c c' L r w hG hr hA hr2 (h.inL (by unfold maxLen; omega)) (h'.inL (by simp [maxLen])) (h.chk2 h' hm (by omega))
theorem Both_nice (A A' : Option Addr) (c c' m m' : Nat) (L L2 : List (List V)) (all : Bool) (w : World) (hG : G w) (hr : LReads w w.heap.size A L) (hr2 : LReads w w.heap.size A' L2) (h : NiceL m L) (h' : NiceL m' L2) (hm : m ≤ 20000) (hm' : m' ≤ 20000) :
    Calls Tryz.prog 35 #[.slice A L.length c, .slice A' L2.length c', .bool all] w fun e w' => ∃ (Ao : Option Addr) (co : Nat), e = .returned (.tuple #[.slice Ao (bothR all L L2).length co, .int .i64 0]) ∧ LReads w' w'.heap.size Ao (bothR all L L2) ∧ Below w.heap.size w w' := by
  have h0 := h.chk2 h' hm hm'
  refine (Both_any A A' c c' L L2 all w hG hr hr2 (h.inL (by unfold maxLen; omega)) (h'.inL (by unfold maxLen; omega))).mono fun e w' ⟨Ao, no, co, h1, h2, _, h4⟩ => ?_
  obtain ⟨rfl, h3⟩ := h2 h0
  exact ⟨Ao, co, by rw [h0] at h1; exact h1, h3, h4⟩
theorem Minus_nice (A A' : Option Addr) (c c' m m' : Nat) (L L2 : List (List V)) (all : Bool) (w : World) (hG : G w) (hr : LReads w w.heap.size A L) (hr2 : LReads w w.heap.size A' L2) (h : NiceL m L) (h' : NiceL m' L2) (hm : m ≤ 20000) (hm' : m' ≤ 20000) :
    Calls Tryz.prog 36 #[.slice A L.length c, .slice A' L2.length c', .bool all] w fun e w' => ∃ (Ao : Option Addr) (co : Nat), e = .returned (.tuple #[.slice Ao (minusR all L L2).length co, .int .i64 0]) ∧ LReads w' w'.heap.size Ao (minusR all L L2) ∧ Below w.heap.size w w' := by
  have h0 := h.chk2 h' hm hm'
  refine (Minus_any A A' c c' L L2 all w hG hr hr2 (h.inL (by unfold maxLen; omega)) (h'.inL (by unfold maxLen; omega))).mono fun e w' ⟨Ao, no, co, h1, h2, _, h4⟩ => ?_
  obtain ⟨rfl, h3⟩ := h2 h0
  exact ⟨Ao, co, by rw [h0] at h1; exact h1, h3, h4⟩
theorem Distinct_nice (A : Option Addr) (c m : Nat) (L : List (List V)) (w : World) (hG : G w) (hr : LReads w w.heap.size A L) (h : NiceL m L) (hm : m ≤ 20000) :
    Calls Tryz.prog 31 #[.slice A L.length c] w fun e w' => ∃ (Ao : Option Addr) (co : Nat), e = .returned (.tuple #[.slice Ao (ddR (canon L)).length co, .int .i64 0]) ∧ LReads w' w'.heap.size Ao (ddR (canon L)) ∧ Below w.heap.size w w' := by
  have h0 := h.chk hm
  refine (Distinct_any A c L w hG hr (h.inL (by unfold maxLen; omega))).mono fun e w' ⟨Ao, no, co, h1, h2, _, h4⟩ => ?_
  obtain ⟨rfl, h3⟩ := h2 h0
  exact ⟨Ao, co, by rw [h0] at h1; exact h1, h3, h4⟩
theorem REqual_nice (A A' : Option Addr) (c c' m m' : Nat) (a b : List (List V)) (w : World) (hr : LReads w w.heap.size A a) (hr' : LReads w w.heap.size A' b) (h : NiceL m a) (h' : NiceL m' b) (hm : m ≤ 20000) :
    Calls Tryz.prog 27 #[.slice A a.length c, .slice A' b.length c'] w fun e w' => e = .returned (.bool (decide (a = b))) ∧ Below w.heap.size w w' :=
  REqual_any A A' c c' a b w hr hr' h.fitM h'.fitM (by have := h.1; unfold maxLen; omega)
end Go.Proofs.YtapnnheggjahlaaGreatDoor
