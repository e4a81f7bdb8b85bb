/-
  TogM: MATHEMATICS of rows made tame: their check passes; what Both and Minus give together; equal counts.
  Some: CONTRACTS: the statements' helper some (right rows of three columns, made from any rows).
-/
import Derived.Test.YtapnnheggjahlaaGreatDoorMeqC
import Derived.Test.YtapnnheggjahlaaGreatDoorRfS
import Derived.Test.YtapnnheggjahlaaGreatDoorGN
namespace Go.Proofs.YtapnnheggjahlaaGreatDoor
open Go.RowKit

/-- right values with short texts -/
def NiceV (v : V) : Prop := V.ok v = true ∧ I64 v.n ∧ v.s.size ≤ 3
/-- right rows of three values -/
def NiceR (r : List V) : Prop := r.length = 3 ∧ ∀ v ∈ r, NiceV v
/-- at most so many right rows of three values -/
def NiceL (m : Nat) (L : List (List V)) : Prop := L.length ≤ m ∧ ∀ r ∈ L, NiceR r
theorem NiceL.mono {m m' : Nat} {L L' : List (List V)} (h : NiceL m L) (hl : L'.length ≤ m') (hs : ∀ r ∈ L', r ∈ L) : NiceL m' L' := ⟨hl, fun r hr => h.2 r (hs r hr)⟩
theorem NiceL.inL {m : Nat} {L : List (List V)} (h : NiceL m L) (hm : m ≤ maxLen) : InL L := ⟨Nat.le_trans h.1 hm, fun r hr => ⟨by rw [(h.2 r hr).1]; unfold maxLen; omega, fun v hv => ⟨Nat.le_trans ((h.2 r hr).2 v hv).2.2 (by unfold maxLen; omega), ((h.2 r hr).2 v hv).2.1⟩⟩⟩
theorem NiceL.fit {m : Nat} {L : List (List V)} (h : NiceL m L) : ∀ r ∈ L, r.length ≤ 1000000 ∧ VFit r := fun r hr => ⟨by rw [(h.2 r hr).1]; omega, fun v hv => Nat.le_trans ((h.2 r hr).2 v hv).2.2 (by unfold maxLen; omega)⟩
theorem NiceL.fitM {m : Nat} {L : List (List V)} (h : NiceL m L) : ∀ r ∈ L, r.length ≤ maxLen ∧ VFit r := fun r hr => ⟨by rw [(h.2 r hr).1]; unfold maxLen; omega, (h.fit r hr).2⟩
theorem NiceL.app {m m' : Nat} {L L' : List (List V)} (h : NiceL m L) (h' : NiceL m' L') : NiceL (m + m') (L ++ L') := ⟨by rw [List.length_append]; have := h.1; have := h'.1; omega, fun r hr => (List.mem_append.1 hr).elim (h.2 r) (h'.2 r)⟩
theorem NiceL.canon {m : Nat} {L : List (List V)} (h : NiceL m L) : NiceL m (canon L) := h.mono (by rw [srtC_len]; exact h.1) fun _ hr => srtC_mem.1 hr
theorem NiceL.bigL {m : Nat} {L : List (List V)} (h : NiceL m L) (hm : m ≤ 20000) : bigL L = false := by
  unfold Proofs.YtapnnheggjahlaaGreatDoor.bigL
  rw [Bool.or_eq_false_iff]
  refine ⟨by have := h.1; simp; omega, List.any_eq_false.2 fun r hr => by rw [(h.2 r hr).1]; simp⟩
theorem NiceL.badL {m : Nat} {L : List (List V)} (h : NiceL m L) : badL L = false := by
  unfold Proofs.YtapnnheggjahlaaGreatDoor.badL
  exact List.any_eq_false.2 fun r hr => by
    rw [Bool.not_eq_true]
    exact List.any_eq_false.2 fun v hv => by rw [((h.2 r hr).2 v hv).1]; simp
theorem NiceL.chk {m : Nat} {L : List (List V)} (h : NiceL m L) (hm : m ≤ 20000) : chkR [L] = 0 := by
  unfold chkR; simp [h.bigL hm, h.badL]
theorem NiceL.chk2 {m m' : Nat} {L L' : List (List V)} (h : NiceL m L) (h' : NiceL m' L') (hm : m ≤ 20000) (hm' : m' ≤ 20000) : chkR [L, L'] = 0 := by
  unfold chkR; simp [h.bigL hm, h.badL, h'.bigL hm', h'.badL]
theorem NiceL.one {m : Nat} {L : List (List V)} (h : NiceL m L) {r : List V} (hr : r ∈ L) : NiceL 1 [r] := ⟨by simp, fun q hq => by rw [List.mem_singleton.1 hq]; exact h.2 r hr⟩

theorem canon_id {l : List (List V)} (h : l.Pairwise fun x y => leC cmpR x y = true) : canon l = l := (srtC_only cmpR_WO (fun _ _ h => cmpR_iff.1 h) (List.Perm.refl l) h).symm
theorem canon_rot (a : List (List V)) (k : Nat) : canon (a.drop k ++ a.take k) = canon a := canon_perm.2 (List.perm_append_comm.trans (.of_eq (List.take_append_drop k a)))
theorem counts_perm : ∀ (a b : List (List V)), a.length = b.length → (∀ x ∈ a, a.count x ≤ b.count x) → a.Perm b
  | [], b, h, _ => by
    have : b = [] := List.length_eq_zero_iff.1 h.symm
    subst this; exact .nil
  | x :: a, b, h, hc => by
    have h1 := hc x (List.mem_cons_self ..)
    have hm : x ∈ b := List.count_pos_iff.1 (by rw [List.count_cons_self] at h1; omega)
    have hp := List.perm_cons_erase hm
    refine (List.Perm.cons x (counts_perm a (b.erase x) ?_ ?_)).trans hp.symm
    · have := List.length_erase_of_mem hm; rw [List.length_cons] at h; omega
    · intro y hy
      have := hc y (List.mem_cons_of_mem _ hy)
      rw [hp.count_eq y, List.count_cons, List.count_cons] at this
      omega
/-- two lists are the same bag just if they are as long and each row of the first is in both as often -/
theorem alike_iff (a b : List (List V)) : (a.length = b.length ∧ ∀ x ∈ a, a.count x = b.count x) ↔ canon a = canon b := by
  rw [canon_perm]
  constructor
  · rintro ⟨h1, h2⟩
    exact counts_perm a b h1 fun x hx => by rw [h2 x hx]; exact Nat.le_refl _
  · intro h
    exact ⟨h.length_eq, fun x _ => h.count_eq x⟩

theorem flat_two {β : Type} (f g : List V → List β) : ∀ D : List (List V), (D.flatMap f ++ D.flatMap g).Perm (D.flatMap fun x => f x ++ g x)
  | [] => .nil
  | x :: D => by
    rw [List.flatMap_cons, List.flatMap_cons, List.flatMap_cons, List.append_assoc, List.append_assoc]
    exact List.Perm.append_left _ ((List.perm_append_comm_assoc ..).trans (List.Perm.append_left _ (flat_two f g D)))
/-- what Both and Minus together have -/
def wantR (all : Bool) (a : List (List V)) : List (List V) := if all then canon a else ddR (canon a)
theorem hdsR_sub (s : List (List V)) : (hdsR s).Sublist s := by
  induction hn : s.length using Nat.strongRecOn generalizing s with
  | _ n ih =>
    match s, hn with
    | [], _ => simp [hdsR_nil]
    | x :: t, hn =>
      rw [hdsR_cons]
      have hl := (List.dropWhile_sublist (fun y => decide (y = x)) (l := t))
      exact ((ih _ (by rw [List.length_cons] at hn; have := hl.length_le; omega) _ rfl).trans hl).cons_cons x
theorem wantR_canon (all : Bool) (a : List (List V)) : canon (wantR all a) = wantR all a := by
  cases all
  · show Proofs.YtapnnheggjahlaaGreatDoor.canon (ddR (canon a)) = ddR (canon a)
    rw [ddR_eq]
    exact canon_id ((srtC_rises cmpR_WO a).sublist (hdsR_sub _))
  · exact canon_id (srtC_rises cmpR_WO a)
theorem both_minus (all : Bool) (a b : List (List V)) : (bothR all a b ++ minusR all a b).Perm (wantR all a) := by
  unfold bothR minusR
  refine (flat_two _ _ _).trans (.of_eq ?_)
  have hc : ∀ x ∈ hdsR (canon a), 0 < a.count x := fun x hx => List.count_pos_iff.2 (canon_hds hx)
  cases all
  · show _ = ddR (canon a)
    rw [ddR_eq]
    refine (flatMap_same (g := fun x => [x]) fun x hx => ?_).trans (by rw [List.flatMap_singleton'])
    have := hc x hx
    unfold nBoth nMinus
    by_cases hb : b.count x = 0
    · simp [hb]
    · have e1 : min (min (a.count x) (b.count x)) 1 = 1 := by omega
      simp [hb, e1]
  · have h1 := runs_rising (fun run => run) (srtC_rises cmpR_WO a)
    rw [List.map_id', runsOf_flat] at h1
    refine Eq.trans ?_ h1.symm
    refine flatMap_same fun x hx => ?_
    have := hc x hx
    show List.replicate (min (a.count x) (b.count x)) x ++ List.replicate (a.count x - b.count x) x = _
    rw [List.replicate_append_replicate]
    have : (canon a).count x = a.count x := count_canon a x
    rw [this]
    congr 1; omega
theorem both_minus_canon (all : Bool) (a b : List (List V)) : canon (bothR all a b ++ minusR all a b) = wantR all a := by
  rw [← wantR_canon all a]; exact canon_perm.2 (both_minus all a b)
theorem both_minus_len (all : Bool) (a b : List (List V)) : (bothR all a b).length + (minusR all a b).length = (wantR all a).length := by
  have := (both_minus all a b).length_eq
  rwa [List.length_append] at this
end Go.Proofs.YtapnnheggjahlaaGreatDoor
namespace Go.Proofs.YtapnnheggjahlaaGreatDoor
open Go.RowKit

def cs3 : List (Int × Bool) := [(1, true), (3, false), (2, true)]
theorem kreads3 (w : World) (T : TypeId) : KReads (w.alloc (.cells #[.int .i64 1, .bool true, .int .i64 3, .bool false, .int .i64 2, .bool true] T)) (w.heap.size + 1) (some ⟨w.heap.size, 0, none⟩) cs3 := fun _ => by
  have q := Blk.new w T #[.int .i64 1, .bool true, .int .i64 3, .bool false, .int .i64 2, .bool true]
  refine ⟨_, _, rfl, by omega, fun i k hi => ?_⟩
  rw [q.cell, q.cell]
  match i, hi with
  | 0, hi => cases hi; exact ⟨rfl, rfl⟩
  | 1, hi => cases hi; exact ⟨rfl, rfl⟩
  | 2, hi => cases hi; exact ⟨rfl, rfl⟩
  | _ + 3, hi => cases hi
theorem tame_nice {r : List V} (h : TameRw cs3 3 r) : NiceR r := ⟨h.1, fun v hv => by
  obtain ⟨i, hi, rfl⟩ := List.getElem_of_mem hv
  have hi3 : i < cs3.length := by rw [h.1] at hi; exact hi
  have := h.2 i r[i] cs3[i] (List.getElem?_eq_getElem hi) (List.getElem?_eq_getElem hi3)
  exact ⟨this.1, this.2.1, this.2.2.1⟩⟩
set_option maxHeartbeats 1000000 in
theorem some_any (B : Option Addr) (c' : Nat) (L : List (List V)) (m : Nat) (w : World) (hr : LReads0 w w.heap.size B L) (hL : InL L) (hm : m ≤ 1000000) :
    Calls Tryz.prog 48 #[.slice B L.length c', .int .i64 (m : Nat)] w fun e w' => ∃ A c R, e = .returned (.slice A R.length c) ∧ R.length = min m L.length ∧ NiceL m R ∧ R.length ≤ c ∧ LReads w' w'.heap.size A R ∧ Below w.heap.size w w' := by
  have HR := Lib.hid (And.intro hr (And.intro hL hm))
  have HK := Lib.hid (kreads3 w 82)
  have hb : Below w.heap.size w (w.alloc (.cells #[.int .i64 1, .bool true, .int .i64 3, .bool false, .int .i64 2, .bool true] 82)) := al (Below.refl _ _) _
  have HB := Lib.hid hb
  clear hr hL hm hb
  go_enter Tryz.func48, Tryz.ntmps48
  go_wp2_with fail
  refine (TameRows_any _ B 3 c' cs3 L m _ (by simpa using HK.out) (HR.out.1.below HB.out HB.out.size) HR.out.2.1 (by decide) HR.out.2.2).mono ?_
  rintro e w1 ⟨v, vs, R, rfl, hRl, hRt, ho, hrs, -, hb1⟩
  obtain ⟨A1, c1, rfl, hl⟩ := OutR.lreads ⟨vs, ho, hrs⟩
  have hcap := own_cap ho
  have HZ := Lib.hid (And.intro hRl (And.intro (show NiceL m R from ⟨by omega, fun r h => tame_nice (hRt r h)⟩) (And.intro hcap (And.intro hl (thn HB.out hb1)))))
  clear hRl hRt ho hrs hb1 hl hcap
  go_wp2_with fail
  go_ret
  exact ⟨A1, c1, R, rfl, HZ.out⟩
end Go.Proofs.YtapnnheggjahlaaGreatDoor
