/-
  Cat: CONTRACT of slices.Concat at lists of expressions.
  JnM: MATHEMATICS of expressions joined by and: conjuncts, values, kinds, form.
  JnF: MATHEMATICS of expressions joined by and: kinds and form.
  JoP: CONTRACTS of scalar.joined, Joined.
  JnI: MATHEMATICS: joined expressions hold numbers that came in.
-/
import Derived.Test.YtdiehgfldndgbaaGreatDoorGA21
import Derived.Test.YtdiehgfldndgbaaGreatDoorSort
import Derived.Test.YtdiehgfldndgbaaGreatDoorGA22
import Derived.Test.YtdiehgfldndgbaaGreatDoorGA07
import Derived.Test.YtdiehgfldndgbaaGreatDoorGA14
import Derived.Test.YtdiehgfldndgbaaGreatDoorGA23
import Derived.Test.YtdiehgfldndgbaaGreatDoorGA06
namespace Go.Proofs.YtdiehgfldndgbaaGreatDoor
open Go.RowKit Go.Deep

/-- held expressions lie in cells -/
def HReads (w : World) (P : Nat → Prop) (A : Option Addr) (hs : List HE) : Prop :=
  0 < hs.length → ∃ b o, A = some ⟨b, o, none⟩ ∧ P b ∧ ∀ (i : Nat) (h : HE), hs[i]? = some h → ∀ j, j < 9 → w.cell? ⟨b, o + i * 9 + j, none⟩ = h.cells[j]?
theorem LOk.held {w : World} {P : Nat → Prop} : ∀ {l : List E} {A : Option Addr}, LOk w P A l → ∃ hs : List HE, hs.map HE.e = l ∧ HReads w P A hs ∧ ∀ h ∈ hs, h.ok w P
  | [], A, _ => ⟨[], rfl, fun h => absurd h (Nat.lt_irrefl 0), fun h hh => by cases hh⟩
  | e :: l, A, hl => by
    rw [LOk] at hl
    obtain ⟨b, o, rfl, hP, he, hl⟩ := hl
    obtain ⟨hs, h1, h2, h3⟩ := LOk.held hl
    obtain ⟨z0, z1, z2, z3, z4, z5, z6, ⟨A', c', z7, z8⟩, R', d', z9, z10⟩ := EOk.mk_.1 he
    refine ⟨⟨e, A', c', R', d'⟩ :: hs, by rw [List.map_cons, h1], fun _ => ⟨b, o, rfl, hP, fun i h hi j hj => ?_⟩, fun h hh => ?_⟩
    · cases i with
      | zero =>
        simp only [List.getElem?_cons_zero, Option.some.injEq] at hi
        subst hi
        rw [Nat.zero_mul, Nat.add_zero]
        have hj' : j = 0 ∨ j = 1 ∨ j = 2 ∨ j = 3 ∨ j = 4 ∨ j = 5 ∨ j = 6 ∨ j = 7 ∨ j = 8 := by omega
        rcases hj' with rfl | rfl | rfl | rfl | rfl | rfl | rfl | rfl | rfl <;> assumption
      | succ i =>
        simp only [List.getElem?_cons_succ] at hi
        obtain ⟨b', o', e1, _, hc⟩ := h2 (Nat.lt_of_le_of_lt (Nat.zero_le _) (List.getElem?_eq_some_iff.1 hi).1)
        injection e1 with e1
        injection e1 with e1 e2 _
        subst e1 e2
        have := hc i h hi j hj
        rw [show o + 9 + i * 9 + j = o + (i + 1) * 9 + j by omega] at this
        exact this
    · rcases List.mem_cons.1 hh with rfl | hh
      · exact ⟨z8, z10⟩
      · exact h3 h hh
theorem HReads.reads {w : World} {P : Nat → Prop} {B : Nat} {A : Option Addr} {hs : List HE} (h : HReads w P A hs) (hB : ∀ b, P b → b < B) : Reads w B 9 A hs.length (hcells hs) := ⟨hcells_len hs, fun h0 => by
  obtain ⟨b, o, rfl, hP, hc⟩ := h h0
  refine ⟨_, rfl, hB b hP, fun j x hj => ?_⟩
  have hjl : j < hs.length * 9 := by have := (List.getElem?_eq_some_iff.1 hj).1; rwa [hcells_len] at this
  have hi : j / 9 < hs.length := by omega
  rw [addN]
  have k := hcells_at hs (j / 9) (j % 9) hs[j / 9] (List.getElem?_eq_getElem hi) (by omega)
  have c := hc (j / 9) hs[j / 9] (List.getElem?_eq_getElem hi) (j % 9) (by omega)
  rw [show j / 9 * 9 + j % 9 = j by omega] at k
  rw [show o + j / 9 * 9 + j % 9 = o + j by omega] at c
  rw [c, ← k]; exact hj⟩
theorem Grow_any (n : Nat) (w : World) (hn : n ≤ 1000000) : Calls Tryz.prog 134 #[.slice none 0 0, .int .i64 n] w fun x w' => ∃ v, x = .returned v ∧ w'.ownsRow w.heap.size 30 9 v 0 [] ∧ Below w.heap.size w w' := by
  obtain ⟨i0, hi, hz0, hz1, hz2⟩ := info_parts infoE
  by_cases h0 : n = 0
  · subst h0
    exact (Any8.slices_Grow_room Tryz.growE none 0 0 0 w (Nat.le_refl _) (by omega) (by omega) (Nat.le_refl _)).mono fun x w' ⟨h1, h2⟩ => ⟨_, h1, ⟨rfl, .inl ⟨rfl, rfl⟩⟩, by rw [h2]; exact Below.refl _ _⟩
  · have key : ∀ (cur : Array Value) (cap : Nat), cur.size = cap * 9 → cap ≤ maxLen → (w.drew.alloc (.cells cur 30)).ownsRow w.heap.size 30 9 (.slice (some ⟨w.heap.size, 0, none⟩) 0 cap) 0 [] := fun cur cap h1 h2 => ⟨rfl, .inr ⟨w.heap.size, cap, cur, rfl, Nat.le_refl _, Blk.new w.drew _ _, Nat.zero_le _, h2, h1, by simp⟩⟩
    refine (Any8.slices_Grow_grow Tryz.growE i0 _ hi hz0 (by omega) none 0 0 n [] w (Nat.le_refl _) (by omega) (by rw [hz2]; omega) (by omega) (by simp) (fun _ => rfl) (fun a h => by cases h)).mono fun x w' ⟨h1, h2⟩ => ⟨_, h1, ?_, ?_⟩
    · rw [h2]
      refine key _ _ ?_ (grownCap_le_maxLen w (0 + n) 0 _ (by unfold maxLen; omega))
      rw [Array.size_append, Array.size_append, size_zeroCells, size_zeroCells]
      have hge := grownCap_ge w (0 + n) 0 30
      have hz9 : (Value.agg #[.int .i64 0, .int .i64 0, .int .i64 0, .int .i64 0, .int .i64 0, .int .i64 0, .string ⟨#[]⟩, .slice none 0 0, .slice none 0 0]).cells.size = 9 := rfl
      rw [hz9]
      show 0 + (0 + n - 0) * 9 + (grownCap w (0 + n) 0 30 - (0 + n)) * 9 = grownCap w (0 + n) 0 30 * 9
      omega
    · rw [h2]
      exact al ((Below.refl _ _).drew) _
set_option maxHeartbeats 4000000 in
set_option maxRecDepth 100000 in
theorem Concat_any (g cap : Nat) (ls : List (List E)) (P : Nat → Prop) (w : World) (hg : g < w.heap.size) (hP : ∀ b, P b → b < w.heap.size)
    (hC : ∀ (i : Nat) (l : List E), ls[i]? = some l → ∃ (Ax : Option Addr) (cx : Nat), w.cell? ⟨g, i, none⟩ = some (.slice Ax l.length cx) ∧ LOk w P Ax l) (hs : (ls.map List.length).sum ≤ 100000) (hn : ls.length ≤ 100000) :
    Calls Tryz.prog 86 #[.slice (some ⟨g, 0, none⟩) ls.length cap] w fun x w' => ∃ (A : Option Addr) (c : Nat), x = .returned (.slice A ls.flatten.length c) ∧ LOk w' (fun b => P b ∨ (w.heap.size ≤ b ∧ b < w'.heap.size)) A ls.flatten ∧ Below w.heap.size w w' := by
  have HA := Lib.hid (And.intro hC (And.intro hg (And.intro hP hs)))
  have HTk : Hid (∀ j (h : j < ls.length), ((ls.take (j + 1)).map List.length).sum = ((ls.take j).map List.length).sum + ls[j].length) := Lib.hid fun j h => by
    rw [List.take_succ_eq_append_getElem h, List.map_append, List.sum_append]; simp
  have HTl : Hid (∀ j, ((ls.take j).map List.length).sum ≤ (ls.map List.length).sum) := Lib.hid fun j => by
    conv => rhs; rw [← List.take_append_drop j ls, List.map_append, List.sum_append]
    omega
  have HGr := Lib.hid (fun n (hn : n ≤ 1000000) => Grow_any n w hn)
  clear hC hg hP hs
  go_enter Tryz.func86, Tryz.ntmps86
  go_wp2_with fail
  go_loopw [3, 11] (fun sz iv wr => ∃ j q : Nat, j ≤ ls.length ∧ iv = .int .i64 j ∧ sz = .int .i64 q ∧ q ≤ 100000 ∧ Hid (q = ((ls.take j).map List.length).sum) ∧ wr = w) (fun _ iv _ => ls.length - (intOf iv).toNat)
  case atStart => exact ⟨0, 0, Nat.zero_le _, rfl, rfl, Nat.zero_le _, Lib.hid rfl, rfl⟩
  case round =>
    obtain ⟨j, q, hj, rfl, rfl, hq, HQ, hw⟩ := hrel
    obtain rfl := hw.symm
    by_cases hlt : j < ls.length
    · have hlti : (j : Int) < (ls.length : Int) := by omega
      obtain ⟨Ax, cx, hcell, _⟩ := HA.out.1 j ls[j] (List.getElem?_eq_getElem hlt)
      have hb2 : q + ls[j].length ≤ 100000 := by
        have h1 := HTl.out (j + 1)
        rw [HTk.out j hlt, ← HQ.out] at h1
        have := HA.out.2.2.2
        omega
      have HQ2 : Hid (q + ls[j].length = ((ls.take (j + 1)).map List.length).sum) := Lib.hid (by rw [HTk.out j hlt, ← HQ.out])
      generalize ls[j].length = n at *
      have hneg : ¬ ((q : Int) + (n : Int) < 0) := by omega
      have hgl := HA.out.2.1
      clear HQ
      go_wp2_with fail
      go_roundw
      case rel => exact ⟨j + 1, q + n, by omega, by go_num, by go_num, hb2, HQ2, by first | rfl | trivial⟩
      case measure => simp [intOf]; omega
    · have hlf : decide ((j : Int) < (ls.length : Int)) = false := decide_eq_false (by omega)
      clear HQ HTk HTl
      go_wp2_with fail
      refine (HGr.out q (by omega)).mono ?_
      rintro x w2 ⟨v2, rfl, hown2, hb2⟩
      obtain ⟨i0, hi, hz0, hz1, hz2⟩ := info_parts infoE
      have H2 := Lib.hid (And.intro hown2 hb2)
      clear hown2 hb2 hq hlf
      go_wp2_with fail
      go_loopw [6, 27] (fun v iv wr => ∃ (k : Nat) (hs : List HE), k ≤ ls.length ∧ iv = .int .i64 k ∧ Hid (wr.ownsRow w.heap.size 30 9 v hs.length (hcells hs)) ∧ Hid (Below w.heap.size w wr ∧ hs.map HE.e = (ls.take k).flatten ∧ ∀ x ∈ hs, x.ok wr P)) (fun _ iv _ => ls.length - (intOf iv).toNat)
      case atStart => exact ⟨0, [], Nat.zero_le _, rfl, Lib.hid H2.out.1, Lib.hid ⟨H2.out.2, rfl, fun x hx => by cases hx⟩⟩
      case round =>
        clear H2 HGr
        obtain ⟨k, hs, hk, rfl, HO, HB⟩ := hrel
        by_cases hkt : k < ls.length
        · have hlti : (k : Int) < (ls.length : Int) := by omega
          obtain ⟨Ax, cx, hcell, hL⟩ := HA.out.1 k ls[k] (List.getElem?_eq_getElem hkt)
          obtain ⟨hx, hxm, hxr, hxo⟩ := LOk.held (hL.kept (P' := P) (fun b hb => HB.out.1.block b (HA.out.2.2.1 b hb)) fun b hb => hb)
          have hxl : hx.length = ls[k].length := by rw [← hxm, List.length_map]
          have hcell2 : wr.cell? ⟨g, k, none⟩ = some (.slice Ax hx.length cx) := by rw [hxl]; exact (HB.out.1.cell (p := ⟨g, k, none⟩) HA.out.2.1).trans hcell
          have HTake : Hid ((hs ++ hx).map HE.e = (ls.take (k + 1)).flatten) := Lib.hid (by
            rw [List.take_succ_eq_append_getElem hkt, List.flatten_append, List.map_append, HB.out.2.1, hxm]; simp)
          have hsum : hs.length + hx.length ≤ 100000 := by
            have h1 := congrArg List.length HTake.out
            rw [List.length_map, List.length_append, List.length_flatten] at h1
            have h2 := HA.out.2.2.2
            have h3 : ((ls.take (k + 1)).map List.length).sum ≤ (ls.map List.length).sum := by
              conv => rhs; rw [← List.take_append_drop (k + 1) ls, List.map_append, List.sum_append]
              omega
            omega
          have HX := Lib.hid (And.intro (hxr.reads (B := wr.heap.size) fun b hb => Nat.lt_of_lt_of_le (HA.out.2.2.1 b hb) HB.out.1.size) hxo)
          have hbs := HB.out.1.size
          clear hcell hL hxm hxr hxo hxl
          go_wp2_with (at_builtin; refine wpList_append_any _ rfl (.tmp 31) (.tmp 32) 22 rfl w.heap.size 30 i0 (.agg #[.int .i64 0, .int .i64 0, .int .i64 0, .int .i64 0, .int .i64 0, .int .i64 0, .string ⟨#[]⟩, .slice none 0 0, .slice none 0 0]) 9 112 Tryz.underlying22 hi hz0 hz1 hz2 rfl (by decide) _ _ _ rfl HO.out wr.heap.size _ _ _ (hcells hx) rfl ?c0 ?c1 ?c2 ?c3 ?c4 ?_)
          case c0 => exact HX.out.1
          case c1 => exact hcells_one _
          case c2 => unfold maxLen; omega
          case c3 => omega
          case c4 => exact hbs
          intro v' w1 hown1 hgrow _
          have HO1 : Hid (w1.ownsRow w.heap.size 30 9 v' (hs ++ hx).length (hcells (hs ++ hx))) := Lib.hid (by
            rw [hcells_append, List.length_append]
            exact hown1)
          have HB1 : Hid (Below w.heap.size w w1 ∧ (hs ++ hx).map HE.e = (ls.take (k + 1)).flatten ∧ ∀ x ∈ hs ++ hx, x.ok w1 P) := Lib.hid (by
            have hb1 : Below w.heap.size w w1 := HB.out.1.grown hgrow hbs (own_base HO.out)
            refine ⟨hb1, HTake.out, fun x hx2 => ?_⟩
            have ho : x.ok wr P := by
              rcases List.mem_append.1 hx2 with h | h
              · exact HB.out.2.2 x h
              · exact HX.out.2 x h
            exact ho.kept (fun b hb => (hb1.block b (HA.out.2.2.1 b hb)).trans (HB.out.1.block b (HA.out.2.2.1 b hb)).symm) fun b hb => hb)
          clear hown1 hgrow
          go_wp2_with fail
          go_roundw
          case rel => exact ⟨k + 1, hs ++ hx, by omega, by go_num, HO1, HB1⟩
          case measure => simp [intOf]; omega
        · have hlf : decide ((k : Int) < (ls.length : Int)) = false := decide_eq_false (by omega)
          have hme : hs.map HE.e = ls.flatten := by rw [HB.out.2.1, List.take_of_length_le (by omega)]
          obtain ⟨A, c, rfl, hL⟩ := LOk.own (P := fun b => P b ∨ (w.heap.size ≤ b ∧ b < wr.heap.size)) HO.out (fun x hx => (HB.out.2.2 x hx).kept (fun _ _ => rfl) fun b hb => .inl hb) fun g' hg' => .inr (HO.out.lt g' hg')
          rw [hme] at hL
          have hll : hs.length = ls.flatten.length := by rw [← hme, List.length_map]
          have HF := Lib.hid (And.intro hL (And.intro HB.out.1 hll))
          clear hme hL hll HO HB
          go_wp2_with fail
          go_ret
          exact ⟨A, c, by rw [HF.out.2.2]; rfl, HF.out.1, HF.out.2.1⟩
end Go.Proofs.YtdiehgfldndgbaaGreatDoor
namespace Go.Proofs.YtdiehgfldndgbaaGreatDoor
open Go.RowKit Go.Deep

abbrev andE (l : List E) : E := .mk 19 0 0 0 ⟨0, 0, ⟨#[]⟩⟩ l []
abbrev trueE : E := .mk 3 0 0 2 ⟨2, 1, ⟨#[]⟩⟩ [] []
/-- expressions joined by and -/
def jnE (l : List E) : E :=
  if l.length = 0 then trueE else if l.length = 1 then l.headD trueE else if l.length ≤ 16 then andE l else andE (l.take 15 ++ [jnE (l.drop 15)])
termination_by l.length
decreasing_by simp only [List.length_drop]; omega
theorem jnE_nil : jnE [] = trueE := by rw [jnE]; rfl
theorem jnE_one (e : E) : jnE [e] = e := by rw [jnE]; rfl
theorem jnE_few {l : List E} (h2 : 2 ≤ l.length) (h16 : l.length ≤ 16) : jnE l = andE l := by rw [jnE, if_neg (by omega), if_neg (by omega), if_pos h16]
theorem jnE_many {l : List E} (h : 16 < l.length) : jnE l = andE (l.take 15 ++ [jnE (l.drop 15)]) := by rw [jnE, if_neg (by omega), if_neg (by omega), if_neg (by omega)]
theorem jnE_cases (l : List E) : l = [] ∨ (∃ e, l = [e]) ∨ (2 ≤ l.length ∧ l.length ≤ 16) ∨ 16 < l.length := by
  match l with
  | [] => exact .inl rfl
  | [e] => exact .inr (.inl ⟨e, rfl⟩)
  | a :: b :: l => 
    by_cases h : (a :: b :: l).length ≤ 16
    · exact .inr (.inr (.inl ⟨by simp, h⟩))
    · exact .inr (.inr (.inr (by omega)))
/-- a truth -/
def truthV (v : V) : Prop := v = ⟨0, 0, ⟨#[]⟩⟩ ∨ v = ⟨2, 0, ⟨#[]⟩⟩ ∨ v = ⟨2, 1, ⟨#[]⟩⟩
theorem isE_f : V.isE false ⟨2, 0, ⟨#[]⟩⟩ = true := by simp [V.isE, veq, b2i]
theorem isE_t : V.isE false ⟨2, 1, ⟨#[]⟩⟩ = false := by simp [V.isE, veq, b2i]
theorem isE_n : V.isE false ⟨0, 0, ⟨#[]⟩⟩ = false := by simp [V.isE, veq]
theorem join_one {v : V} (h : truthV v) : joinV false [v] = v := by
  rcases h with rfl | rfl | rfl
  · simp [joinV, isE_n, V.isN]
  · simp [joinV, isE_f, b2i]
  · simp [joinV, isE_t, V.isN, b2i]
end Go.Proofs.YtdiehgfldndgbaaGreatDoor
namespace Go.Proofs.YtdiehgfldndgbaaGreatDoor
open Go.RowKit Go.Deep

theorem nodesL_app : ∀ (a b : List E), nodesL (a ++ b) = nodesL a + nodesL b
  | [], b => by simp [nodesL]
  | e :: a, b => by rw [List.cons_append, nodesL, nodesL, nodesL_app a b]; omega
theorem nodes_and (l : List E) : nodesE (andE l) = 1 + nodesL l := by rw [nodesE]
theorem jn_nodes : ∀ (n : Nat) (l : List E), l.length < n → nodesE (jnE l) ≤ nodesL l + l.length / 15 + 1
  | 0, _, h => absurd h (Nat.not_lt_zero _)
  | n + 1, l, hn => by
    rcases jnE_cases l with rfl | ⟨e, rfl⟩ | ⟨h2, h16⟩ | h16
    · rw [jnE_nil]; decide
    · rw [jnE_one, nodesL, nodesL]; omega
    · rw [jnE_few h2 h16, nodes_and]; omega
    · have hl : (l.drop 15).length = l.length - 15 := List.length_drop
      have ih := jn_nodes n (l.drop 15) (by omega)
      have e := nodesL_app (l.take 15) (l.drop 15)
      rw [List.take_append_drop] at e
      rw [jnE_many h16, nodes_and, nodesL_app, nodesL, nodesL]
      rw [hl] at ih
      omega
end Go.Proofs.YtdiehgfldndgbaaGreatDoor
namespace Go.Proofs.YtdiehgfldndgbaaGreatDoor
open Go.RowKit Go.Deep

theorem LOk.take {w : World} {P : Nat → Prop} : ∀ (n : Nat) {l : List E} {A : Option Addr}, LOk w P A l → LOk w P A (l.take n)
  | 0, l, A, _ => by rw [List.take_zero]; exact LOk.nil_
  | n + 1, [], A, _ => LOk.nil_
  | n + 1, e :: l, A, h => by
    rw [LOk] at h
    obtain ⟨b, o, rfl, hb, he, hl⟩ := h
    rw [List.take_succ_cons, LOk]
    exact ⟨b, o, rfl, hb, he, LOk.take n hl⟩
theorem LOk.drop {w : World} {P : Nat → Prop} : ∀ (n : Nat) {l : List E} {b o : Nat}, LOk w P (some ⟨b, o, none⟩) l → LOk w P (some ⟨b, o + n * 9, none⟩) (l.drop n)
  | 0, l, b, o, h => by rw [Nat.zero_mul]; exact h
  | n + 1, [], b, o, _ => LOk.nil_
  | n + 1, e :: l, b, o, h => by
    rw [LOk] at h
    obtain ⟨b', o', e1, hb, he, hl⟩ := h
    injection e1 with e1
    injection e1 with e1 e2 _
    subst e1 e2
    rw [List.drop_succ_cons, show o + (n + 1) * 9 = o + 9 + n * 9 by omega]
    exact LOk.drop n hl
set_option maxHeartbeats 4000000 in
set_option maxRecDepth 100000 in
theorem joinedE_any (B : Nat) : ∀ (k : Nat) (l : List E) (A : Option Addr) (c : Nat) (w : World), l.length < k → k ≤ 10000 → l.length ≤ c → c ≤ maxLen → B ≤ w.heap.size → LOk w (Lo B) A l →
    Calls Tryz.prog 48 #[.slice A l.length c] w fun x w' => ∃ h : HE, h.e = jnE l ∧ x = .returned h.val ∧ Below w.heap.size w w' ∧ h.ok w' (In2 B w.heap.size w'.heap.size) := by
  intro k
  induction k with
  | zero => intro l A c w h; exact absurd h (Nat.not_lt_zero _)
  | succ k ih =>
    intro l A c w hk hk1 hc hcm hBw hA0
    have hA : LOk w (Lo w.heap.size) A l := hA0.kept (fun _ _ => rfl) fun b h => Nat.lt_of_lt_of_le h hBw
    have HA := Lib.hid hA0
    have HB : Hid (Below w.heap.size w (w.alloc (.cells #[.int .i64 0, .int .i64 0, .int .i64 0, .int .i64 0, .int .i64 0, .int .i64 0, .string ⟨#[]⟩, .slice none 0 0, .slice none 0 0] 30)) ∧ Blk (w.alloc (.cells #[.int .i64 0, .int .i64 0, .int .i64 0, .int .i64 0, .int .i64 0, .int .i64 0, .string ⟨#[]⟩, .slice none 0 0, .slice none 0 0] 30)) w.heap.size 30 #[.int .i64 0, .int .i64 0, .int .i64 0, .int .i64 0, .int .i64 0, .int .i64 0, .string ⟨#[]⟩, .slice none 0 0, .slice none 0 0]) := Lib.hid ⟨al (Below.refl _ _) _, Blk.new _ _ _⟩
    rcases jnE_cases l with rfl | ⟨e, rfl⟩ | ⟨h2, h16⟩ | h16
    · rw [jnE_nil]
      have HT := Lib.hid (truthS_any true (w.alloc (.cells #[.int .i64 0, .int .i64 0, .int .i64 0, .int .i64 0, .int .i64 0, .int .i64 0, .string ⟨#[]⟩, .slice none 0 0, .slice none 0 0] 30)))
      clear ih hA hA0
      go_enter Tryz.func48, Tryz.ntmps48
      go_wp2_with fail
      refine HT.out.mono ?_
      rintro x w2 ⟨rfl, hb2⟩
      have H2 := Lib.hid hb2
      have HL := Lib.hid (literalP_any ⟨2, 1, ⟨#[]⟩⟩ w2)
      clear hb2 HT
      go_wp2_with fail
      refine HL.out.mono ?_
      rintro x w3 ⟨rfl, hb3⟩
      have H3 : Hid (Below w.heap.size w w3 ∧ Blk w3 w.heap.size 30 #[.int .i64 0, .int .i64 0, .int .i64 0, .int .i64 0, .int .i64 0, .int .i64 0, .string ⟨#[]⟩, .slice none 0 0, .slice none 0 0]) := Lib.hid ⟨thn (thn HB.out.1 H2.out) hb3, (HB.out.2.below H2.out HB.out.2.lt).below hb3 (by have := H2.out.size; have := HB.out.2.lt; omega)⟩
      clear hb3 HL H2 HB
      have hq := H3.out.2
      have hql := hq.lt
      have f0 := hq.frozen 0
      have f1 := hq.frozen 1
      have f2 := hq.frozen 2
      have f3 := hq.frozen 3
      have f4 := hq.frozen 4
      have f5 := hq.frozen 5
      have f6 := hq.frozen 6
      have f7 := hq.frozen 7
      have f8 := hq.frozen 8
      have d0 := hq.cell 0
      have d1 := hq.cell 1
      have d2 := hq.cell 2
      have d3 := hq.cell 3
      have d4 := hq.cell 4
      have d5 := hq.cell 5
      have d6 := hq.cell 6
      have d7 := hq.cell 7
      have d8 := hq.cell 8
      simp only [List.getElem?_toArray, List.getElem?_cons_succ, List.getElem?_cons_zero] at d0 d1 d2 d3 d4 d5 d6 d7 d8
      clear hq
      have HB9 := Lib.hid (H3.out.2.set9_ (.int .i64 3) (.int .i64 0) (.int .i64 0) (.int .i64 2) (.int .i64 2) (.int .i64 1) (.string ⟨#[]⟩) (.slice none 0 0) (.slice none 0 0))
      go_wp2_with fail
      have k0 := HB9.out.cell 0
      have k1 := HB9.out.cell 1
      have k2 := HB9.out.cell 2
      have k3 := HB9.out.cell 3
      have k4 := HB9.out.cell 4
      have k5 := HB9.out.cell 5
      have k6 := HB9.out.cell 6
      have k7 := HB9.out.cell 7
      have k8 := HB9.out.cell 8
      simp at k0 k1 k2 k3 k4 k5 k6 k7 k8
      exact bodyPost_ret (v := .agg #[.int .i64 3, .int .i64 0, .int .i64 0, .int .i64 2, .int .i64 2, .int .i64 1, .string ⟨#[]⟩, .slice none 0 0, .slice none 0 0]) (by simp [results, Tryz.results48, go_sem, k0, k1, k2, k3, k4, k5, k6, k7, k8]) rfl ⟨⟨trueE, none, 0, none, 0⟩, rfl, rfl, st9 H3.out.1 (Nat.le_refl _) _ _ _ _ _ _ _ _ _, LOk.nil_, fun h => absurd h (Nat.lt_irrefl 0)⟩
    · rw [jnE_one]
      obtain ⟨b, o, A', c', R', d', rfl, hZ, -, -⟩ := hA.eat (i := 0) (by simp)
      have hLR : HE.ok w (Lo B) ⟨e, A', c', R', d'⟩ := by
        have hE := HA.out
        rw [LOk] at hE
        obtain ⟨b', o', e1, _, he, _⟩ := hE
        injection e1 with e1
        injection e1 with e1 e2 _
        subst e1 e2
        obtain ⟨_, _, _, _, _, _, _, ⟨A2, c2, z7, z8⟩, R2, d2, z9, z10⟩ := EOk.mk_.1 he
        have q7 := hZ.c7
        have q8 := hZ.c8
        rw [Nat.zero_mul, Nat.add_zero] at q7 q8
        rw [q7] at z7
        rw [q8] at z9
        cases z7
        cases z9
        exact ⟨z8, z10⟩
      have HZ : Hid (EAt (w.alloc (.cells #[.int .i64 0, .int .i64 0, .int .i64 0, .int .i64 0, .int .i64 0, .int .i64 0, .string ⟨#[]⟩, .slice none 0 0, .slice none 0 0] 30)) b o e A' c' R' d') := Lib.hid (by simpa using hZ.below (al (Below.refl _ _) (.cells #[.int .i64 0, .int .i64 0, .int .i64 0, .int .i64 0, .int .i64 0, .int .i64 0, .string ⟨#[]⟩, .slice none 0 0, .slice none 0 0] 30)))
      have HLR := Lib.hid hLR
      clear ih hA hA0 hZ hLR HA
      have hZ := HZ.out
      have x0 := hZ.c0
      have x1 := hZ.c1
      have x2 := hZ.c2
      have x3 := hZ.c3
      have x4 := hZ.c4
      have x5 := hZ.c5
      have x6 := hZ.c6
      have x7 := hZ.c7
      have x8 := hZ.c8
      clear hZ
      have HB9 := Lib.hid (Blk.new w 30 #[.int .i64 e.op, .int .i64 e.n, .int .i64 e.m, .int .i64 e.kind, .int .i64 e.lit.k, .int .i64 e.lit.n, .string e.lit.s, .slice A' e.args.length c', .slice R' e.rels.length d'])
      go_enter Tryz.func48, Tryz.ntmps48
      go_wp2_with fail
      have k0 := HB9.out.cell 0
      have k1 := HB9.out.cell 1
      have k2 := HB9.out.cell 2
      have k3 := HB9.out.cell 3
      have k4 := HB9.out.cell 4
      have k5 := HB9.out.cell 5
      have k6 := HB9.out.cell 6
      have k7 := HB9.out.cell 7
      have k8 := HB9.out.cell 8
      simp at k0 k1 k2 k3 k4 k5 k6 k7 k8
      exact bodyPost_ret (v := .agg #[.int .i64 e.op, .int .i64 e.n, .int .i64 e.m, .int .i64 e.kind, .int .i64 e.lit.k, .int .i64 e.lit.n, .string e.lit.s, .slice A' e.args.length c', .slice R' e.rels.length d']) (by simp [results, Tryz.results48, go_sem]) rfl ⟨⟨e, A', c', R', d'⟩, rfl, rfl, al (Below.refl _ _) _, HLR.out.kept (fun b hb => Below.heap_alloc w _ b (Nat.lt_of_lt_of_le hb hBw)) fun b hb => by have : b < B := hb; exact ⟨.inl this, by simp; omega⟩⟩
    · rw [jnE_few h2 h16]
      have h0i : ((l.length : Int) == 0) = false := beq_eq_false_iff_ne.2 (by omega)
      have h1i : ((l.length : Int) == 1) = false := beq_eq_false_iff_ne.2 (by omega)
      have h0n : (l.length == 0) = false := beq_eq_false_iff_ne.2 (by omega)
      have h1n : (l.length == 1) = false := beq_eq_false_iff_ne.2 (by omega)
      have h16i : decide ((16 : Int) < (l.length : Int)) = false := decide_eq_false (by omega)
      have h16n : decide (16 < l.length) = false := decide_eq_false (by omega)
      clear ih hA hA0
      have HB9 := Lib.hid (Blk.new w 30 #[.int .i64 19, .int .i64 0, .int .i64 0, .int .i64 0, .int .i64 0, .int .i64 0, .string ⟨#[]⟩, .slice A l.length c, .slice none 0 0])
      go_enter Tryz.func48, Tryz.ntmps48
      go_wp2_with fail
      have k0 := HB9.out.cell 0
      have k1 := HB9.out.cell 1
      have k2 := HB9.out.cell 2
      have k3 := HB9.out.cell 3
      have k4 := HB9.out.cell 4
      have k5 := HB9.out.cell 5
      have k6 := HB9.out.cell 6
      have k7 := HB9.out.cell 7
      have k8 := HB9.out.cell 8
      simp at k0 k1 k2 k3 k4 k5 k6 k7 k8
      exact bodyPost_ret (v := .agg #[.int .i64 19, .int .i64 0, .int .i64 0, .int .i64 0, .int .i64 0, .int .i64 0, .string ⟨#[]⟩, .slice A l.length c, .slice none 0 0]) (by simp [results, Tryz.results48, go_sem]) rfl ⟨⟨andE l, A, c, none, 0⟩, rfl, rfl, al (Below.refl _ _) _, HA.out.kept (fun b hb => Below.heap_alloc w _ b (Nat.lt_of_lt_of_le hb hBw)) fun b hb => by have : b < B := hb; exact ⟨.inl this, by simp; omega⟩, fun h => absurd h (Nat.lt_irrefl 0)⟩
    · rw [jnE_many h16]
      obtain ⟨b, o, A', c', R', d', rfl, hZ, hL, hR⟩ := hA.eat (i := 0) (by omega)
      clear hZ hL hR
      have h0i : ((l.length : Int) == 0) = false := beq_eq_false_iff_ne.2 (by omega)
      have h1i : ((l.length : Int) == 1) = false := beq_eq_false_iff_ne.2 (by omega)
      have h16i : (16 : Int) < (l.length : Int) := by omega
      have hs1 : (15 : Int) ≤ (l.length : Int) := by omega
      have hs2 : (15 : Int) ≤ (c : Int) := by omega
      have hlc : (l.length : Int) ≤ (c : Int) := by omega
      have hdl : (l.drop 15).length = l.length - 15 := List.length_drop ..
      have HJ : Hid (∀ w1, Below w.heap.size w w1 → Calls Tryz.prog 48 #[.slice (some ⟨b, o + 135, none⟩) (l.length - 15) (c - 15)] w1 fun x w' => ∃ h : HE, h.e = jnE (l.drop 15) ∧ x = .returned h.val ∧ Below w1.heap.size w1 w' ∧ h.ok w' (In2 B w1.heap.size w'.heap.size)) := Lib.hid fun w1 hb => by
        have k := ih (l.drop 15) (some ⟨b, o + 15 * 9, none⟩) (c - 15) w1 (by omega) (by omega) (by omega) (by omega) (Nat.le_trans hBw hb.size) (LOk.drop 15 (hA0.kept (fun b h => hb.block b (Nat.lt_of_lt_of_le h hBw)) fun _ h => h))
        rw [hdl] at k
        exact k
      have HCc : Hid (∀ (g1 g2 : Nat) (w1 : World) (h : HE), w.heap.size + 1 ≤ g1 → h.ok w1 (In2 B (w.heap.size + 1) w1.heap.size) → h.e = jnE (l.drop 15) → Blk w1 g1 30 h.cells.toArray → Blk w1 g2 22 #[.slice (some ⟨b, o, none⟩) 15 c, .slice (some ⟨g1, 0, none⟩) 1 1] → Below w.heap.size w w1 →
          Calls Tryz.prog 86 #[.slice (some ⟨g2, 0, none⟩) 2 2] w1 fun x w' => ∃ (Az : Option Addr) (cz : Nat), x = .returned (.slice Az (l.take 15 ++ [jnE (l.drop 15)]).length cz) ∧ LOk w' (In2 B (w.heap.size + 1) w'.heap.size) Az (l.take 15 ++ [jnE (l.drop 15)]) ∧ Below w1.heap.size w1 w') := Lib.hid fun g1 g2 w1 h hg1 hok hhe k1 k2 hb => by
        have hb0 := hb
        have k := Concat_any g2 2 [l.take 15, [jnE (l.drop 15)]] (In2 B (w.heap.size + 1) w1.heap.size) w1 k2.lt (fun b h => h.2) (fun i x hi => by
          match i, hi with
          | 0, hi =>
            cases hi
            refine ⟨some ⟨b, o, none⟩, c, ?_, LOk.take 15 (hA0.kept (fun b h => hb.block b (Nat.lt_of_lt_of_le h hBw)) fun b h => ⟨.inl h, Nat.lt_of_lt_of_le h (Nat.le_trans hBw hb.size)⟩)⟩
            rw [List.length_take, Nat.min_eq_left (by omega)]
            exact k2.cell 0
          | 1, hi =>
            cases hi
            refine ⟨some ⟨g1, 0, none⟩, 1, k2.cell 1, ?_⟩
            rw [← hhe]
            exact LOk.one (A := h.A) (R := h.R) (c := h.c) (d := h.d) k1 ⟨.inr hg1, k1.lt⟩ hok.1 hok.2) (by simp; omega) (by simp)
        refine k.mono fun x w' ⟨Az, cz, h1, h2, h3⟩ => ⟨Az, cz, ?_, ?_, h3⟩
        · rw [h1]; simp
        · have e : [l.take 15, [jnE (l.drop 15)]].flatten = l.take 15 ++ [jnE (l.drop 15)] := by simp
          rw [e] at h2
          exact h2.kept (fun _ _ => rfl) fun b hb => by
            have hs3 := h3.size
            have hs1 := hb0.size
            have hg2 := hg1
            have := k1.lt
            rcases hb with h | h
            · exact ⟨h.1, Nat.lt_of_lt_of_le h.2 hs3⟩
            · exact ⟨.inr (by omega), h.2⟩
      clear ih hA hdl hA0
      generalize hsj : l.take 15 ++ [jnE (l.drop 15)] = lj at *
      have HSj := Lib.hid hsj
      clear hsj
      go_enter Tryz.func48, Tryz.ntmps48
      go_wp2_with fail
      go_quiet (fail)
      go_wp2_with fail
      have HBd : Hid (Below w.heap.size w ((w.alloc (.cells #[.int .i64 0, .int .i64 0, .int .i64 0, .int .i64 0, .int .i64 0, .int .i64 0, .string ⟨#[]⟩, .slice none 0 0, .slice none 0 0] 30)).drewN nq) ∧ Blk ((w.alloc (.cells #[.int .i64 0, .int .i64 0, .int .i64 0, .int .i64 0, .int .i64 0, .int .i64 0, .string ⟨#[]⟩, .slice none 0 0, .slice none 0 0] 30)).drewN nq) w.heap.size 30 #[.int .i64 0, .int .i64 0, .int .i64 0, .int .i64 0, .int .i64 0, .int .i64 0, .string ⟨#[]⟩, .slice none 0 0, .slice none 0 0]) := Lib.hid ⟨below_drewN HB.out.1 nq, HB.out.2.drewN nq⟩
      refine (HJ.out _ HBd.out.1).mono ?_
      rintro x w2 ⟨h, hhe, rfl, hb2, hok⟩
      have H2 : Hid (Below w.heap.size w w2 ∧ Blk w2 w.heap.size 30 #[.int .i64 0, .int .i64 0, .int .i64 0, .int .i64 0, .int .i64 0, .int .i64 0, .string ⟨#[]⟩, .slice none 0 0, .slice none 0 0] ∧ h.e = jnE (l.drop 15) ∧ h.ok w2 (In2 B (w.heap.size + 1) w2.heap.size) ∧ w.heap.size + 1 ≤ w2.heap.size) := Lib.hid ⟨thn HBd.out.1 hb2, HBd.out.2.below hb2 HBd.out.2.lt, hhe, hok.kept (fun _ _ => rfl) (fun b h => ⟨h.1.imp id fun h => Nat.le_trans HBd.out.2.lt h, h.2⟩), Nat.le_trans HBd.out.2.lt hb2.size⟩
      clear hb2 hhe hok HJ HBd HB
      have HW : Hid (∀ o1 : Obj, Below w.heap.size w ((w2.alloc (.cells h.cells.toArray 30)).alloc o1) ∧ Blk ((w2.alloc (.cells h.cells.toArray 30)).alloc o1) w.heap.size 30 #[.int .i64 0, .int .i64 0, .int .i64 0, .int .i64 0, .int .i64 0, .int .i64 0, .string ⟨#[]⟩, .slice none 0 0, .slice none 0 0] ∧ Blk ((w2.alloc (.cells h.cells.toArray 30)).alloc o1) w2.heap.size 30 h.cells.toArray ∧ h.ok ((w2.alloc (.cells h.cells.toArray 30)).alloc o1) (In2 B (w.heap.size + 1) ((w2.alloc (.cells h.cells.toArray 30)).alloc o1).heap.size)) := Lib.hid fun o1 =>
        ⟨al (al H2.out.1 _) _, (H2.out.2.1.alloc _).alloc _, (Blk.new w2 _ _).alloc _, H2.out.2.2.2.1.kept (fun b hb => (Below.heap_alloc _ _ b (by have := hb.2; simp; omega)).trans (Below.heap_alloc w2 _ b hb.2)) fun b hb => ⟨hb.1, by have := hb.2; simp; omega⟩⟩
      unfold HE.cells at HW
      unfold HE.val E.val
      go_wp2_with fail
      refine (HCc.out w2.heap.size (w2.heap.size + 1) _ h H2.out.2.2.2.2 (HW.out _).2.2.2 H2.out.2.2.1 (HW.out _).2.2.1 (Blk.new' (by simp)) (HW.out _).1).mono ?_
      rintro x w3 ⟨Az, cz, rfl, hL, hb3⟩
      have H3 : Hid (Below w.heap.size w w3 ∧ Blk w3 w.heap.size 30 #[.int .i64 0, .int .i64 0, .int .i64 0, .int .i64 0, .int .i64 0, .int .i64 0, .string ⟨#[]⟩, .slice none 0 0, .slice none 0 0] ∧ LOk w3 (In2 B (w.heap.size + 1) w3.heap.size) Az lj) := Lib.hid ⟨thn (HW.out _).1 hb3, (HW.out _).2.1.below hb3 (HW.out _).2.1.lt, hL⟩
      clear hb3 hL HCc HW H2
      have hq := H3.out.2.1
      have hql := hq.lt
      have f0 := hq.frozen 0
      have f1 := hq.frozen 1
      have f2 := hq.frozen 2
      have f3 := hq.frozen 3
      have f4 := hq.frozen 4
      have f5 := hq.frozen 5
      have f6 := hq.frozen 6
      have f7 := hq.frozen 7
      have f8 := hq.frozen 8
      have d0 := hq.cell 0
      have d1 := hq.cell 1
      have d2 := hq.cell 2
      have d3 := hq.cell 3
      have d4 := hq.cell 4
      have d5 := hq.cell 5
      have d6 := hq.cell 6
      have d7 := hq.cell 7
      have d8 := hq.cell 8
      simp only [List.getElem?_toArray, List.getElem?_cons_succ, List.getElem?_cons_zero] at d0 d1 d2 d3 d4 d5 d6 d7 d8
      clear hq
      have HB9 := Lib.hid (H3.out.2.1.set9_ (.int .i64 19) (.int .i64 0) (.int .i64 0) (.int .i64 0) (.int .i64 0) (.int .i64 0) (.string ⟨#[]⟩) (.slice Az lj.length cz) (.slice none 0 0))
      go_wp2_with fail
      have k0 := HB9.out.cell 0
      have k1 := HB9.out.cell 1
      have k2 := HB9.out.cell 2
      have k3 := HB9.out.cell 3
      have k4 := HB9.out.cell 4
      have k5 := HB9.out.cell 5
      have k6 := HB9.out.cell 6
      have k7 := HB9.out.cell 7
      have k8 := HB9.out.cell 8
      simp at k0 k1 k2 k3 k4 k5 k6 k7 k8
      exact bodyPost_ret (v := .agg #[.int .i64 19, .int .i64 0, .int .i64 0, .int .i64 0, .int .i64 0, .int .i64 0, .string ⟨#[]⟩, .slice Az lj.length cz, .slice none 0 0]) (by simp [results, Tryz.results48, go_sem, k0, k1, k2, k3, k4, k5, k6, k7, k8]) rfl ⟨⟨andE lj, Az, cz, none, 0⟩, by rw [← HSj.out], rfl, st9 H3.out.1 (Nat.le_refl _) _ _ _ _ _ _ _ _ _, H3.out.2.2.kept (fun b hb => set9_far _ _ _ _ _ _ _ _ _ _ _ b (by rcases hb.1 with h | h <;> omega)) (fun b hb => ⟨hb.1.imp id fun h => by omega, by rw [set9_size]; exact hb.2⟩), fun h => absurd h (Nat.lt_irrefl 0)⟩
end Go.Proofs.YtdiehgfldndgbaaGreatDoor
namespace Go.Proofs.YtdiehgfldndgbaaGreatDoor
open Go.RowKit Go.Deep

theorem jn_inn : ∀ (n : Nat) (l : List E), l.length < n → LIn l → EIn (jnE l)
  | 0, _, h, _ => absurd h (Nat.not_lt_zero _)
  | n + 1, l, hn, h => by
    have hz : I64 0 := ⟨by decide, by decide⟩
    have hand : ∀ q : List E, q.length ≤ 16 → LIn q → EIn (andE q) := fun q hq hI => by
      rw [EIn]
      exact ⟨⟨by decide, by decide⟩, hz, hz, hz, hz, hz, Nat.zero_le _, by unfold maxLen; omega, Nat.zero_le _, (fun x hx => by cases hx), hI⟩
    rcases jnE_cases l with rfl | ⟨e, rfl⟩ | ⟨h2, h16⟩ | h16
    · rw [jnE_nil]
      exact leaf_in ⟨by decide, by decide⟩ hz hz ⟨by decide, by decide⟩ ⟨by decide, by decide⟩ ⟨by decide, by decide⟩ (Nat.zero_le _)
    · rw [jnE_one]; rw [LIn] at h; exact h.1
    · rw [jnE_few h2 h16]; exact hand l h16 h
    · have ih := jn_inn n (l.drop 15) (by rw [List.length_drop]; omega) (LIn.of fun x hx => h.mem x (List.mem_of_mem_drop hx))
      rw [jnE_many h16]
      refine hand _ (by rw [List.length_append, List.length_take, List.length_singleton]; omega) (LIn.of fun x hx => ?_)
      rcases List.mem_append.1 hx with hx | hx
      · exact h.mem x (List.mem_of_mem_take hx)
      · rw [List.mem_singleton] at hx
        subst hx
        exact ih
end Go.Proofs.YtdiehgfldndgbaaGreatDoor
