/-
  WrM: MATHEMATICS and small contracts for the strings of expressions.
  PsM: MATHEMATICS: where the string of a value ends.
  KnM: CONTRACT of scalar.kind: the kind of an expression on columns.
  Knd: CONTRACT of scalar.kind: the kind of an expression on columns.
-/
import Derived.Test.YtdiehgfldndgbaaGreatDoorEcS
import Derived.Test.YtdiehgfldndgbaaGreatDoorScS
import Derived.Test.YtdiehgfldndgbaaGreatDoorGA12
import Derived.Test.YtdiehgfldndgbaaGreatDoorGA15
import Derived.Lib.Join
import Derived.Test.YtdiehgfldndgbaaGreatDoorGA14
import Derived.Test.YtdiehgfldndgbaaGreatDoorKof
namespace Go.Proofs.YtdiehgfldndgbaaGreatDoor
open Go.RowKit Go.Deep

/-- what both packages' variables hold -/
structure GG (w : World) : Prop where
  g : G w
  s : GS w
theorem GG.thn {w w' : World} (h : GG w) (hb : Below w.heap.size w w') : GG w' := ⟨h.g.thn hb, h.s.thn hb⟩
theorem join_S : ∀ l : List (List UInt8), Lib.join l [44, 32] = joinS l
  | [] => by simp [Lib.join_nil, joinS]
  | [x] => by simp [Lib.join_one, joinS]
  | x :: y :: l => by
    have ih := join_S (y :: l)
    unfold Lib.join at ih ⊢
    rw [joinS, ← ih]
    simp [List.intercalate, List.intersperse]
theorem itoaE_any (n : Int) (hn : I64 n) (w : World) (hG : G w) : Calls Tryz.prog 107 #[.int .i64 n] w fun e w' => e = .returned (.string ⟨(Lib.itoa n).toArray⟩) ∧ Below w.heap.size w w' :=
  (Tryz.strconv_Itoa n hn.1 hn.2 w hG.tab).mono fun _ _ ⟨h, k, os, hw⟩ => ⟨h, hw ▸ below_grow w k os⟩
theorem node_of {e : E} (h : e.node = true) : nodeB e.op e.n e.m e.kind e.lit e.args.length e.rels.length = true := h
/-- what the fields of a node say -/
theorem node_cases {e : E} (h : e.node = true) : e.rels = [] ∧ ((e.op = 1 ∧ 0 ≤ e.n ∧ e.args = []) ∨ (e.op = 2 ∧ 1 ≤ e.n ∧ 0 ≤ e.m ∧ e.args = []) ∨
    (e.op = 3 ∧ (e.kind = 1 ∨ e.kind = 2 ∨ e.kind = 3) ∧ okVal e.lit.k e.lit.n e.lit.s.data.toList = true ∧ (e.lit.k = 0 ∨ e.lit.k = e.kind) ∧ e.args = []) ∨
    (4 ≤ e.op ∧ e.op ≤ 25 ∧ manyB e.op e.args.length = true)) := by
  have h := node_of h
  unfold nodeB at h
  by_cases h3 : e.op = 3
  · rw [if_pos h3] at h
    simp only [Bool.and_eq_true, Bool.or_eq_true, beq_iff_eq, realB, List.length_eq_zero_iff] at h
    exact ⟨h.2, .inr (.inr (.inl ⟨h3, or_assoc.1 h.1.1.1.1.2, h.1.1.1.2, h.1.1.2, h.1.2⟩))⟩
  · rw [if_neg h3] at h
    simp only [Bool.and_eq_true, beq_iff_eq] at h
    obtain ⟨h1, ⟨⟨_, _⟩, h4⟩, h5⟩ := h
    refine ⟨List.eq_nil_of_length_eq_zero h4, ?_⟩
    by_cases o1 : e.op = 1
    · rw [if_pos o1] at h1
      rw [if_pos (.inl o1)] at h5
      simp only [Bool.and_eq_true, decide_eq_true_eq, beq_iff_eq] at h1 h5
      exact .inl ⟨o1, h1.1, List.eq_nil_of_length_eq_zero h5⟩
    · rw [if_neg o1] at h1
      by_cases o2 : e.op = 2
      · rw [if_pos o2] at h1
        rw [if_pos (.inr o2)] at h5
        simp only [Bool.and_eq_true, decide_eq_true_eq, beq_iff_eq] at h1 h5
        exact .inr (.inl ⟨o2, h1.1, h1.2, List.eq_nil_of_length_eq_zero h5⟩)
      · rw [if_neg (by omega)] at h5
        simp only [Bool.and_eq_true, decide_eq_true_eq] at h5
        exact .inr (.inr (.inr ⟨h5.1.1, h5.1.2, h5.2⟩))
theorem many_le {op : Int} {n : Nat} (h : manyB op n = true) : n ≤ 16 ∧ 1 ≤ n := by
  unfold manyB at h
  split at h
  · simp at h; omega
  · split at h
    · simp at h; omega
    · split at h
      · simp at h; omega
      · simp at h; omega
theorem node_args {e : E} (h : e.node = true) : e.args.length ≤ 16 := by
  rcases (node_cases h).2 with ⟨_, _, h⟩ | ⟨_, _, _, h⟩ | ⟨_, _, _, _, h⟩ | ⟨_, _, h⟩
  · rw [h]; simp
  · rw [h]; simp
  · rw [h]; simp
  · exact (many_le h).1
theorem shapedL_mem {d : Nat} : ∀ {l : List E}, shapedL d l = true → ∀ x ∈ l, shapedE d x = true
  | e :: l, h, x, hx => by
    rw [shapedL, Bool.and_eq_true] at h
    rcases List.mem_cons.1 hx with rfl | hx
    · exact h.1
    · exact shapedL_mem h.2 x hx
theorem EIn.nums {e : E} (h : EIn e) : I64 e.op ∧ I64 e.n ∧ I64 e.m ∧ I64 e.kind ∧ I64 e.lit.k ∧ I64 e.lit.n ∧ e.lit.s.size ≤ maxLen := by
  cases e; rw [EIn] at h; exact ⟨h.1, h.2.1, h.2.2.1, h.2.2.2.1, h.2.2.2.2.1, h.2.2.2.2.2.1, h.2.2.2.2.2.2.1⟩
theorem kwB_len (k : Int) : (kwB k).data.toList.length ≤ 4 := by
  unfold kwB
  split
  · decide
  · split <;> decide
theorem leafB_len {e : E} (h : e.node = true) (hI : EIn e) (h4 : e.op < 4) : (leafB e.op e.n e.m e.kind e.lit).length ≤ 500 := by
  have hi := hI.nums
  have i1 := (itoa_len e.n hi.2.1).1
  have i2 := (itoa_len e.m hi.2.2.1).1
  have i3 := kwB_len e.kind
  unfold leafB
  split
  · simp only [List.length_cons]; omega
  · split
    · simp only [List.length_cons, List.length_append]; omega
    · split
      · simp only [List.length_append, List.length_cons, List.length_nil]; omega
      · rcases (node_cases h).2 with ⟨h, _⟩ | ⟨h, _⟩ | ⟨_, _, h, _⟩ | ⟨h, _⟩
        · contradiction
        · contradiction
        · have := strB_len _ _ _ h hi.2.2.2.2.2.1
          simpa [ByteArray.size] using this
        · omega
/-- the length of a string -/
theorem strE_len : ∀ (d : Nat) (e : E), shapedE d e = true → EIn e → (strE e).length ≤ 600 * nodesE e := by
  intro d
  induction d with
  | zero => intro e h; rw [shapedE_zero] at h; cases h
  | succ d ih =>
    intro e h hI
    rw [shapedE_succ, Bool.and_eq_true] at h
    have hn := nodesE_args e
    rw [strE_of]
    split
    · rename_i h4
      have := leafB_len h.1 hI h4
      omega
    · have hl : e.args.length ≤ 16 := node_args h.1
      have hj := joinS_len (e.args.map strE)
      have hw := wordL_len e.op
      have hsum : ∀ l : List E, (∀ x ∈ l, (strE x).length ≤ 600 * nodesE x) → (((l.map strE).map fun x => x.length + 2).sum) ≤ 600 * nodesL l + 2 * l.length := by
        intro l
        induction l with
        | nil => intro _; simp [nodesL]
        | cons x l ih2 =>
          intro hx
          have h1 := hx x (List.mem_cons_self ..)
          have h2 := ih2 fun y hy => hx y (List.mem_cons_of_mem _ hy)
          simp only [List.map_cons, List.sum_cons, nodesL, List.length_cons]
          omega
      have h3 := hsum e.args fun x hx => ih x (shapedL_mem h.2 x hx) (LIn.mem (EIn.args hI) x hx)
      simp only [List.length_append, List.length_cons, List.length_nil]
      omega
end Go.Proofs.YtdiehgfldndgbaaGreatDoor
namespace Go.Proofs.YtdiehgfldndgbaaGreatDoor
open Go.RowKit

/-- whether one is in a text behind these bytes, if none of them ends a value -/
def passQ : Bool → List UInt8 → Option Bool
  | q, [] => some q
  | q, c :: l => if !(inQ q c) && stops c then none else passQ (inQ q c) l
theorem endL_pass : ∀ {l : List UInt8} {q q' : Bool} (t : List UInt8), passQ q l = some q' → endL q (l ++ t) = l.length + endL q' t
  | [], q, q', t, h => by
    rw [passQ] at h
    injection h with h
    subst h
    simp
  | c :: l, q, q', t, h => by
    rw [passQ] at h
    rw [List.cons_append, endL]
    split at h
    · cases h
    · rename_i h2
      rw [if_neg h2, endL_pass t h, List.length_cons]
      omega
theorem pass_app : ∀ {l : List UInt8} {q q' : Bool} (t : List UInt8), passQ q l = some q' → passQ q (l ++ t) = passQ q' t
  | [], q, q', t, h => by
    rw [passQ] at h
    injection h with h
    subst h
    rfl
  | c :: l, q, q', t, h => by
    rw [passQ] at h
    rw [List.cons_append, passQ]
    split at h
    · cases h
    · rename_i h2
      rw [if_neg h2, pass_app t h]
theorem pass_plain : ∀ {l : List UInt8}, (∀ c ∈ l, c.toNat ≠ 39 ∧ stops c = false) → passQ false l = some false
  | [], _ => rfl
  | c :: l, h => by
    have h1 := h c (List.mem_cons_self ..)
    rw [passQ, h1.2, show inQ false c = false from if_neg h1.1]
    exact pass_plain fun x hx => h x (List.mem_cons_of_mem _ hx)
theorem stops_num {c : UInt8} (h : c.toNat = 45 ∨ (48 ≤ c.toNat ∧ c.toNat ≤ 57)) : c.toNat ≠ 39 ∧ stops c = false := by
  have hc : c = UInt8.ofNat c.toNat := by simp
  have : c.toNat = 45 ∨ c.toNat = 48 ∨ c.toNat = 49 ∨ c.toNat = 50 ∨ c.toNat = 51 ∨ c.toNat = 52 ∨ c.toNat = 53 ∨ c.toNat = 54 ∨ c.toNat = 55 ∨ c.toNat = 56 ∨ c.toNat = 57 := by omega
  rcases this with e | e | e | e | e | e | e | e | e | e | e <;> (rw [e] at hc; subst hc; exact ⟨by decide, by decide⟩)
theorem endL_stop0 {t : List UInt8} (h : ∀ c r, t = c :: r → c.toNat ≠ 39 ∧ stops c = true) : endL false t = 0 := by
  cases t with
  | nil => rfl
  | cons c r =>
    have h1 := h c r rfl
    exact endL_stop (if_neg h1.1) h1.2
theorem pass_quote : ∀ l : List UInt8, passQ true (quote l) = some true
  | [] => rfl
  | c :: l => by
    have ih := pass_quote l
    by_cases hc : c = 39
    · subst hc
      have e : quote (39 :: l) = 39 :: 39 :: quote l := by simp [quote]
      rw [e]
      exact ih
    · have e : quote (c :: l) = c :: quote l := by simp [quote, hc]
      have hn : ¬ c.toNat = 39 := fun h => hc (by rw [← UInt8.toNat_inj]; exact h)
      rw [e, passQ, show inQ true c = true from if_neg hn]
      exact ih
theorem itoa_num (n : Int) : ∀ c ∈ Lib.itoa n, c.toNat = 45 ∨ (48 ≤ c.toNat ∧ c.toNat ≤ 57) := by
  intro c hc
  unfold Lib.itoa at hc
  split at hc
  · rcases List.mem_cons.1 hc with rfl | hc
    · exact .inl rfl
    · exact .inr ((dec_dig _).2 c hc)
  · exact .inr ((dec_dig _).2 c hc)
/-- the string of a value passes -/
theorem pass_strB (v : V) (h : v.ok = true) : passQ false (strB v.k v.n v.s) = some false := by
  obtain ⟨k, n, s⟩ := v
  rcases ok_cases (k := k) (n := n) (s := s) h with ⟨rfl, rfl, rfl⟩ | ⟨rfl, rfl⟩ | ⟨rfl, rfl, rfl⟩ | ⟨rfl, rfl, rfl⟩ | ⟨rfl, rfl, _⟩
  · rfl
  · exact pass_plain fun c hc => stops_num (itoa_num n c hc)
  · rfl
  · rfl
  · have e : strB 3 0 s = 39 :: (quote s.data.toList ++ [39]) := by
      show 39 :: (Lib.replaceAll s.data.toList [39] [39, 39] ++ [39]) = _
      rw [show Lib.replaceAll s.data.toList [39] [39, 39] = quote s.data.toList from repl_quote _]
    show passQ false (strB 3 0 s) = some false
    rw [e, passQ, show inQ false 39 = true from rfl]
    show passQ true (quote s.data.toList ++ [39]) = some false
    rw [pass_app [39] (pass_quote _)]
    rfl
/-- .. and ends ahead of a comma, a bracket, a colon -/
theorem end_strB (v : V) (h : v.ok = true) (t : List UInt8) (ht : ∀ c r, t = c :: r → c.toNat ≠ 39 ∧ stops c = true) : endL false (strB v.k v.n v.s ++ t) = (strB v.k v.n v.s).length := by
  rw [endL_pass t (pass_strB v h), endL_stop0 ht, Nat.add_zero]
end Go.Proofs.YtdiehgfldndgbaaGreatDoor
namespace Go.Proofs.YtdiehgfldndgbaaGreatDoor
open Go.RowKit Go.Deep

theorem makeCo (n : Nat) (hn : n ≤ 1000000) (w : World) : ∃ C : Array Value, C.size = n * 2 ∧ (Instr.makeSlice 54 (.int .i64 (n : Int)) (.int .i64 (n : Int))).run Tryz.prog w = .ok (.slice (some ⟨w.heap.size, 0, none⟩) n n) (w.alloc (.cells C 77)) := by
  obtain ⟨i0, hi, hz0, hz1, hz2⟩ := info_parts infoCo
  have h := run_make (P := Tryz.prog) (w := w) 54 77 i0 (.agg #[.int .i64 0, .bool false]) Tryz.underlying54 hi hz0 .i64 .i64 (n : Int) (n : Int) (by omega) (Int.le_refl _) (by rw [hz2]; omega) (by omega)
  rw [hz1] at h
  simp only [Int.toNat_natCast] at h
  exact ⟨_, by simp [madeCells], h⟩
/-- the first j columns stand in a block -/
def CoAt (C : Array Value) (ks : List Co) : Prop := ∀ (i : Nat) (k : Co), ks[i]? = some k → C[i * 2]? = some (.int .i64 k.1) ∧ C[i * 2 + 1]? = some (.bool k.2)
theorem CoAt.snoc {C : Array Value} {ks : List Co} {n : Nat} (h : CoAt C ks) (k : Co) (hC : C.size = n * 2) (hn : ks.length < n) : CoAt ((C.setIfInBounds (ks.length * 2) (.int .i64 k.1)).setIfInBounds (ks.length * 2 + 1) (.bool k.2)) (ks ++ [k]) := by
  intro i x hx
  rcases Nat.lt_or_ge i ks.length with hi | hi
  · rw [List.getElem?_append_left hi] at hx
    have := h i x hx
    rw [Array.getElem?_setIfInBounds_ne (by omega), Array.getElem?_setIfInBounds_ne (by omega), Array.getElem?_setIfInBounds_ne (by omega), Array.getElem?_setIfInBounds_ne (by omega)]
    exact this
  · have he : i = ks.length := by
      have := (List.getElem?_eq_some_iff.1 hx).1
      simp at this; omega
    subst he
    have hxe : x = k := by simpa using hx.symm
    subst hxe
    constructor
    · rw [Array.getElem?_setIfInBounds_ne (by omega), Array.getElem?_setIfInBounds_self_of_lt (by omega)]
    · rw [Array.getElem?_setIfInBounds_self_of_lt (by simp; omega)]
theorem CoAt.reads {w : World} {g : Nat} {C : Array Value} {ks : List Co} {T : TypeId} (h : CoAt C ks) (hB : Blk w g T C) : KReads w w.heap.size (some ⟨g, 0, none⟩) ks := fun _ => ⟨g, 0, rfl, hB.lt, fun i k hk => by
  obtain ⟨h1, h2⟩ := h i k hk
  rw [Nat.zero_add]
  exact ⟨(hB.cell _).trans h1, (hB.cell _).trans h2⟩⟩
end Go.Proofs.YtdiehgfldndgbaaGreatDoor
namespace Go.Proofs.YtdiehgfldndgbaaGreatDoor
open Go.RowKit Go.Deep

theorem kindE_col (cs : List Co) (e : E) (n : Nat) (ho : e.op = 1) (hn : e.n = n) : kindE cs e = cs[n]? := by
  rw [kindE_of, if_neg (by omega), if_pos ho, if_neg (by omega), hn]; rfl
set_option maxHeartbeats 8000000 in
set_option maxRecDepth 100000 in
theorem kindP_any : ∀ (k q : Nat) (e : E) (A R : Option Addr) (c d : Nat) (cs : List Co) (Ac : Option Addr) (cc : Nat) (w : World), nodesE e < k → k ≤ 1000000 → GS w → shapedE q e = true → LOk w (Lo w.heap.size) A e.args → KReads w w.heap.size Ac cs → cs.length ≤ 1000 →
    Calls Tryz.prog 81 #[e.val A c R d, .slice Ac cs.length cc] w fun x w' => x = .returned (.tuple #[coV (kindE cs e), .bool (kindE cs e).isSome]) ∧ Below w.heap.size w w' := by
  intro k
  induction k with
  | zero => intro q e A R c d cs Ac cc w h; exact absurd h (Nat.not_lt_zero _)
  | succ k ih =>
    intro q e A R c d cs Ac cc w hk hk1 hG hsh hA hC hcl
    obtain ⟨q, rfl⟩ : ∃ q', q = q' + 1 := by
      cases q with
      | zero => rw [shapedE_zero] at hsh; cases hsh
      | succ q => exact ⟨q, rfl⟩
    rw [shapedE_succ, Bool.and_eq_true] at hsh
    have hnc := node_cases hsh.1
    have HA := Lib.hid (And.intro hG (And.intro hA (And.intro hC hsh)))
    have HKE := Lib.hid (kindE_of cs e)
    have hnE := nodesE_args e
    have hln := nodesL_len e.args
    have IH := Lib.hid ih
    clear ih hG hA hC hsh
    unfold E.val
    rcases hnc.2 with ⟨ho, hn0, hz⟩ | ⟨ho, hn0, hm0, hz⟩ | ⟨ho, hkk, hok, hlk, hz⟩ | ⟨ho4, ho25, hmany⟩
    · obtain ⟨n, hn⟩ : ∃ n : Nat, e.n = n := ⟨e.n.toNat, by omega⟩
      have HV : Hid (kindE cs e = cs[n]?) := Lib.hid (kindE_col cs e n ho hn)
      have HB1 : Hid (KReads ((w.alloc (.cells #[.int .i64 1, .int .i64 (n : Nat), .int .i64 e.m, .int .i64 e.kind, .int .i64 e.lit.k, .int .i64 e.lit.n, .string e.lit.s, .slice A e.args.length c, .slice R e.rels.length d] 30)).alloc (.cells #[.int .i64 0, .bool false] 77)) ((w.alloc (.cells #[.int .i64 1, .int .i64 (n : Nat), .int .i64 e.m, .int .i64 e.kind, .int .i64 e.lit.k, .int .i64 e.lit.n, .string e.lit.s, .slice A e.args.length c, .slice R e.rels.length d] 30)).alloc (.cells #[.int .i64 0, .bool false] 77)).heap.size Ac cs ∧ Below w.heap.size w ((w.alloc (.cells #[.int .i64 1, .int .i64 (n : Nat), .int .i64 e.m, .int .i64 e.kind, .int .i64 e.lit.k, .int .i64 e.lit.n, .string e.lit.s, .slice A e.args.length c, .slice R e.rels.length d] 30)).alloc (.cells #[.int .i64 0, .bool false] 77)) ∧ Blk ((w.alloc (.cells #[.int .i64 1, .int .i64 (n : Nat), .int .i64 e.m, .int .i64 e.kind, .int .i64 e.lit.k, .int .i64 e.lit.n, .string e.lit.s, .slice A e.args.length c, .slice R e.rels.length d] 30)).alloc (.cells #[.int .i64 0, .bool false] 77)) (w.heap.size + 1) 77 #[.int .i64 0, .bool false]) := Lib.hid ⟨HA.out.2.2.1.below (al (al (Below.refl _ _) _) _) (by simp; omega), al (al (Below.refl _ _) _) _, Blk.new' (by simp)⟩
      rw [ho, hn]
      clear ho hn0 hn hnc HKE hnE hln hz
      by_cases hlt : n < cs.length
      · have HR : Hid (kindE cs e = some (cs[n].1, cs[n].2)) := Lib.hid (by rw [HV.out, List.getElem?_eq_getElem hlt])
        obtain ⟨b, o, rfl, hblk, c0, c1⟩ := HB1.out.1.at_ hlt
        have hge : ¬ ((cs.length : Int) ≤ (n : Int)) := by omega
        have hge2 : ¬ (cs.length ≤ n) := by omega
        generalize cs[n].1 = kk at *
        generalize cs[n].2 = kn at *
        go_enter Tryz.func81, Tryz.ntmps81
        go_wp2_with fail
        exact bodyPost_ret (v := .tuple #[.agg #[.int .i64 kk, .bool kn], .bool true]) (by simp [results, Tryz.results81, go_sem]) rfl ⟨by rw [HR.out]; rfl, al (al (Below.refl _ _) _) _⟩
      · have HR : Hid (kindE cs e = none) := Lib.hid (by rw [HV.out, List.getElem?_eq_none (by omega)])
        have hge : ((cs.length : Int) ≤ (n : Int)) := by omega
        have hge2 : (cs.length ≤ n) := by omega
        go_enter Tryz.func81, Tryz.ntmps81
        go_wp2_with fail
        exact bodyPost_ret (v := .tuple #[.agg #[.int .i64 0, .bool false], .bool false]) (by simp [results, Tryz.results81, go_sem]) rfl ⟨by rw [HR.out]; rfl, al (al (Below.refl _ _) _) _⟩
    · have HR : Hid (kindE cs e = none) := Lib.hid (by rw [HKE.out, if_pos ho])
      have HB1 : Hid (Below w.heap.size w ((w.alloc (.cells #[.int .i64 2, .int .i64 e.n, .int .i64 e.m, .int .i64 e.kind, .int .i64 e.lit.k, .int .i64 e.lit.n, .string e.lit.s, .slice A e.args.length c, .slice R e.rels.length d] 30)).alloc (.cells #[.int .i64 0, .bool false] 77)) ∧ Blk ((w.alloc (.cells #[.int .i64 2, .int .i64 e.n, .int .i64 e.m, .int .i64 e.kind, .int .i64 e.lit.k, .int .i64 e.lit.n, .string e.lit.s, .slice A e.args.length c, .slice R e.rels.length d] 30)).alloc (.cells #[.int .i64 0, .bool false] 77)) (w.heap.size + 1) 77 #[.int .i64 0, .bool false]) := Lib.hid ⟨al (al (Below.refl _ _) _) _, Blk.new' (by simp)⟩
      rw [ho]
      clear ho hn0 hm0 hnc HKE hnE hln hz
      go_enter Tryz.func81, Tryz.ntmps81
      go_wp2_with fail
      exact bodyPost_ret (v := .tuple #[.agg #[.int .i64 0, .bool false], .bool false]) (by simp [results, Tryz.results81, go_sem]) rfl ⟨by rw [HR.out]; rfl, al (al (Below.refl _ _) _) _⟩
    · have HR : Hid (kindE cs e = some (e.kind, e.lit.k == 0)) := Lib.hid (by
        rw [HKE.out, if_neg (by omega), if_neg (by omega), hz]
        simp [kindL, combE, ho])
      have HB1 : Hid (Below w.heap.size w ((w.alloc (.cells #[.int .i64 3, .int .i64 e.n, .int .i64 e.m, .int .i64 e.kind, .int .i64 e.lit.k, .int .i64 e.lit.n, .string e.lit.s, .slice A e.args.length c, .slice R e.rels.length d] 30)).alloc (.cells #[.int .i64 0, .bool false] 77)) ∧ Blk ((w.alloc (.cells #[.int .i64 3, .int .i64 e.n, .int .i64 e.m, .int .i64 e.kind, .int .i64 e.lit.k, .int .i64 e.lit.n, .string e.lit.s, .slice A e.args.length c, .slice R e.rels.length d] 30)).alloc (.cells #[.int .i64 0, .bool false] 77)) (w.heap.size + 1) 77 #[.int .i64 0, .bool false]) := Lib.hid ⟨al (al (Below.refl _ _) _) _, Blk.new' (by simp)⟩
      rw [ho]
      clear ho hkk hok hlk hnc HKE hnE hln hz
      go_enter Tryz.func81, Tryz.ntmps81
      go_wp2_with fail
      exact bodyPost_ret (v := .tuple #[.agg #[.int .i64 e.kind, .bool (e.lit.k == 0)], .bool true]) (by simp [results, Tryz.results81, go_sem]) rfl ⟨by rw [HR.out]; rfl, al (al (Below.refl _ _) _) _⟩
    · obtain ⟨m, hm⟩ : ∃ m : Nat, e.op = m := ⟨e.op.toNat, by omega⟩
      have hm4 : 4 ≤ m := by omega
      have hm25 : m ≤ 25 := by omega
      have HML := Lib.hid (many_le hmany)
      have HV : Hid (kindE cs e = match kindL cs e.args with
        | none => none
        | some l => kindP m l) := Lib.hid (by
          rw [HKE.out, if_neg (by omega), if_neg (by omega)]
          cases hl : kindL cs e.args with
          | none => rfl
          | some l =>
            show combE e.op e.kind e.lit.k l = kindP m l
            rw [hm, kindP_eq m e.kind e.lit.k l (by omega) (by omega)]
            intro h22
            have h1 := kindL_len cs e.args l hl
            rw [hm] at hmany
            have h2 : manyB 22 e.args.length = true := by rw [← h22]; exact hmany
            simp [manyB] at h2
            omega)
      obtain ⟨C0, hC0, hmk⟩ := makeCo e.args.length (by omega) ((w.alloc (.cells #[.int .i64 (m : Nat), .int .i64 e.n, .int .i64 e.m, .int .i64 e.kind, .int .i64 e.lit.k, .int .i64 e.lit.n, .string e.lit.s, .slice A e.args.length c, .slice R e.rels.length d] 30)).alloc (.cells #[.int .i64 0, .bool false] 77))
      rw [hm]
      have e1 : ((m : Int) == 1) = false := beq_eq_false_iff_ne.2 (by omega)
      have e2 : ((m : Int) == 2) = false := beq_eq_false_iff_ne.2 (by omega)
      have e3 : ((m : Int) == 3) = false := beq_eq_false_iff_ne.2 (by omega)
      have hsz0 : ((w.alloc (.cells #[.int .i64 (m : Nat), .int .i64 e.n, .int .i64 e.m, .int .i64 e.kind, .int .i64 e.lit.k, .int .i64 e.lit.n, .string e.lit.s, .slice A e.args.length c, .slice R e.rels.length d] 30)).alloc (.cells #[.int .i64 0, .bool false] 77)).heap.size = w.heap.size + 1 + 1 := by simp
      have H0 : Hid (Below w.heap.size w (((w.alloc (.cells #[.int .i64 (m : Nat), .int .i64 e.n, .int .i64 e.m, .int .i64 e.kind, .int .i64 e.lit.k, .int .i64 e.lit.n, .string e.lit.s, .slice A e.args.length c, .slice R e.rels.length d] 30)).alloc (.cells #[.int .i64 0, .bool false] 77)).alloc (.cells C0 77)) ∧ Blk (((w.alloc (.cells #[.int .i64 (m : Nat), .int .i64 e.n, .int .i64 e.m, .int .i64 e.kind, .int .i64 e.lit.k, .int .i64 e.lit.n, .string e.lit.s, .slice A e.args.length c, .slice R e.rels.length d] 30)).alloc (.cells #[.int .i64 0, .bool false] 77)).alloc (.cells C0 77)) (w.heap.size + 1) 77 #[.int .i64 0, .bool false] ∧ Blk (((w.alloc (.cells #[.int .i64 (m : Nat), .int .i64 e.n, .int .i64 e.m, .int .i64 e.kind, .int .i64 e.lit.k, .int .i64 e.lit.n, .string e.lit.s, .slice A e.args.length c, .slice R e.rels.length d] 30)).alloc (.cells #[.int .i64 0, .bool false] 77)).alloc (.cells C0 77)) (w.heap.size + 1 + 1) 77 C0 ∧ Blk (((w.alloc (.cells #[.int .i64 (m : Nat), .int .i64 e.n, .int .i64 e.m, .int .i64 e.kind, .int .i64 e.lit.k, .int .i64 e.lit.n, .string e.lit.s, .slice A e.args.length c, .slice R e.rels.length d] 30)).alloc (.cells #[.int .i64 0, .bool false] 77)).alloc (.cells C0 77)) w.heap.size 30 #[.int .i64 (m : Nat), .int .i64 e.n, .int .i64 e.m, .int .i64 e.kind, .int .i64 e.lit.k, .int .i64 e.lit.n, .string e.lit.s, .slice A e.args.length c, .slice R e.rels.length d]) :=
        Lib.hid ⟨al (al (al (Below.refl _ _) _) _) _, (Blk.new' (by simp)).alloc _, Blk.new' hsz0, ((Blk.new w 30 _).alloc _).alloc _⟩
      have HC0 := Lib.hid hC0
      clear hnc HKE hmany ho4 ho25 hm hC0 hsz0
      go_enter Tryz.func81, Tryz.ntmps81
      go_wp2_with fail
      go_loopw [45] (fun iv wr => ∃ (j : Nat) (C : Array Value) (ks : List Co), j ≤ e.args.length ∧ iv = .int .i64 j ∧ Hid (Below w.heap.size w wr ∧ Blk wr (w.heap.size + 1) 77 #[.int .i64 0, .bool false] ∧ Blk wr (w.heap.size + 1 + 1) 77 C ∧ Blk wr w.heap.size 30 #[.int .i64 (m : Nat), .int .i64 e.n, .int .i64 e.m, .int .i64 e.kind, .int .i64 e.lit.k, .int .i64 e.lit.n, .string e.lit.s, .slice A e.args.length c, .slice R e.rels.length d]) ∧ Hid (C.size = e.args.length * 2 ∧ ks.length = j ∧ kindL cs (e.args.take j) = some ks ∧ CoAt C ks)) (fun iv _ => e.args.length - (intOf iv).toNat)
      case atStart => exact ⟨0, C0, [], Nat.zero_le _, rfl, H0, ⟨HC0.out, rfl, by simp [kindL], fun i k h => by cases h⟩⟩
      case round =>
        obtain ⟨j, C, ks, hj, rfl, HW, HK⟩ := hrel
        by_cases hlt : j < e.args.length
        · have hlti : (j : Int) < (e.args.length : Int) := by omega
          obtain ⟨b, o, rfl, hb, he⟩ := (HA.out.2.1.below HW.out.1 HW.out.1.size).at_ hlt
          obtain ⟨z0, z1, z2, z3, z4, z5, z6, ⟨A', c', z7, z8⟩, R', d', z9, z10⟩ := EOk.mk_.1 he
          have x0 : wr.cell? ⟨b, o + j * 9, none⟩ = some (.int .i64 e.args[j].op) := z0
          have x1 : wr.cell? ⟨b, o + j * 9 + 1, none⟩ = some (.int .i64 e.args[j].n) := z1
          have x2 : wr.cell? ⟨b, o + j * 9 + 2, none⟩ = some (.int .i64 e.args[j].m) := z2
          have x3 : wr.cell? ⟨b, o + j * 9 + 3, none⟩ = some (.int .i64 e.args[j].kind) := z3
          have x4 : wr.cell? ⟨b, o + j * 9 + 4, none⟩ = some (.int .i64 e.args[j].lit.k) := z4
          have x5 : wr.cell? ⟨b, o + j * 9 + 5, none⟩ = some (.int .i64 e.args[j].lit.n) := z5
          have x6 : wr.cell? ⟨b, o + j * 9 + 6, none⟩ = some (.string e.args[j].lit.s) := z6
          have x7 : wr.cell? ⟨b, o + j * 9 + 7, none⟩ = some ((.slice A' e.args[j].args.length c')) := z7
          have x8 : wr.cell? ⟨b, o + j * 9 + 8, none⟩ = some ((.slice R' e.args[j].rels.length d')) := z9
          have hmm := nodesL_mem (List.getElem_mem hlt)
          have HQ : Hid (∀ ob, Calls Tryz.prog 81 #[e.args[j].val A' c' R' d', .slice Ac cs.length cc] (wr.alloc ob) fun x w' => x = .returned (.tuple #[coV (kindE cs e.args[j]), .bool (kindE cs e.args[j]).isSome]) ∧ Below (wr.alloc ob).heap.size (wr.alloc ob) w') := Lib.hid fun ob =>
            IH.out q e.args[j] A' R' c' d' cs Ac cc (wr.alloc ob) (by omega) (by omega) (HA.out.1.thn (al HW.out.1 _)) (shapedL_mem HA.out.2.2.2.2 _ (List.getElem_mem hlt)) (z8.below (al (Below.refl _ _) _) (by simp)) (HA.out.2.2.1.below (al HW.out.1 _) (by have := HW.out.1.size; simp; omega)) hcl
          have HTk := Lib.hid (kindL_take cs e.args j hlt ks)
          have HSp := Lib.hid (kindL_stop cs e.args j hlt)
          clear z0 z1 z2 z3 z4 z5 z6 z7 z8 z9 z10 he hmm
          cases hq : kindE cs e.args[j] with
          | none =>
            have HR : Hid (kindE cs e = none) := Lib.hid (by rw [HV.out, HSp.out hq])
            rw [hq] at HQ
            unfold coV at HQ
            clear hq HTk HSp
            generalize e.args[j] = ej at *
            unfold E.val at HQ
            go_wp2_with fail
            refine (HQ.out _).mono ?_
            rintro x w3 ⟨rfl, hb3⟩
            have H3 : Hid (Below w.heap.size w w3 ∧ Blk w3 (w.heap.size + 1) 77 #[.int .i64 0, .bool false]) := Lib.hid ⟨thn (al HW.out.1 _) hb3, (HW.out.2.1.alloc _).below hb3 (by have := HW.out.2.1.lt; simp; omega)⟩
            clear hb3 x0 x1 x2 x3 x4 x5 x6 x7 x8
            have hrb := H3.out.2
            have f0 := hrb.frozen 0
            have f1 := hrb.frozen 1
            have d0 := hrb.cell 0
            have d1 := hrb.cell 1
            have hrl := hrb.lt
            simp only [List.getElem?_toArray, List.getElem?_cons_succ, List.getElem?_cons_zero] at d0 d1
            go_wp2_with fail
            have HB := ((hrb.set_ 0 (.int .i64 0)).set_ 1 (.bool false)).alloc (.cells #[.int .i64 0, .bool false] 77)
            have k0 := HB.cell 0
            have k1 := HB.cell 1
            simp at k0 k1
            exact bodyPost_ret (v := .tuple #[.agg #[.int .i64 0, .bool false], .bool false]) (by simp [results, Tryz.results81, go_sem, k0, k1]) rfl ⟨by rw [HR.out]; rfl, al ((H3.out.1.setCell (p := ⟨w.heap.size + 1, 0, none⟩) (by simp <;> omega) _).setCell (p := ⟨w.heap.size + 1, 1, none⟩) (by simp <;> omega) _) _⟩
          | some kc =>
            have HN : Hid (kindL cs (e.args.take (j + 1)) = some (ks ++ [kc])) := Lib.hid (HTk.out kc HK.out.2.2.1 hq)
            rw [hq] at HQ
            unfold coV at HQ
            clear hq HTk HSp
            generalize e.args[j] = ej at *
            unfold E.val at HQ
            obtain ⟨kc1, kc2⟩ := kc
            go_wp2_with fail
            refine (HQ.out _).mono ?_
            rintro x w3 ⟨rfl, hb3⟩
            have H3 : Hid (Below w.heap.size w w3 ∧ Blk w3 (w.heap.size + 1) 77 #[.int .i64 0, .bool false] ∧ Blk w3 (w.heap.size + 1 + 1) 77 C ∧ Blk w3 w.heap.size 30 #[.int .i64 (m : Nat), .int .i64 e.n, .int .i64 e.m, .int .i64 e.kind, .int .i64 e.lit.k, .int .i64 e.lit.n, .string e.lit.s, .slice (some ⟨b, o, none⟩) e.args.length c, .slice R e.rels.length d]) := Lib.hid ⟨thn (al HW.out.1 _) hb3, (HW.out.2.1.alloc _).below hb3 (by have := HW.out.2.1.lt; simp; omega), (HW.out.2.2.1.alloc _).below hb3 (by have := HW.out.2.2.1.lt; simp; omega), (HW.out.2.2.2.alloc _).below hb3 (by have := HW.out.2.2.2.lt; simp; omega)⟩
            clear hb3 x0 x1 x2 x3 x4 x5 x6 x7 x8
            have hB3 := H3.out.2.2.1
            have q0 := hB3.cell (j * 2)
            have q1 := hB3.cell (j * 2 + 1)
            have r0 := hB3.frozen (j * 2)
            have r1 := hB3.frozen (j * 2 + 1)
            have hCs := HK.out.1
            have hj1 : j * 2 < C.size := by omega
            have hj2 : j * 2 + 1 < C.size := by omega
            rw [Array.getElem?_eq_getElem hj1] at q0
            rw [Array.getElem?_eq_getElem hj2] at q1
            have hl3 := hB3.lt
            have HF : ∀ ob, Hid (Below w.heap.size w (((w3.setCell ⟨w.heap.size + 1 + 1, j * 2, none⟩ (.int .i64 kc1)).setCell ⟨w.heap.size + 1 + 1, j * 2 + 1, none⟩ (.bool kc2)).alloc ob) ∧ Blk (((w3.setCell ⟨w.heap.size + 1 + 1, j * 2, none⟩ (.int .i64 kc1)).setCell ⟨w.heap.size + 1 + 1, j * 2 + 1, none⟩ (.bool kc2)).alloc ob) (w.heap.size + 1) 77 #[.int .i64 0, .bool false] ∧ Blk (((w3.setCell ⟨w.heap.size + 1 + 1, j * 2, none⟩ (.int .i64 kc1)).setCell ⟨w.heap.size + 1 + 1, j * 2 + 1, none⟩ (.bool kc2)).alloc ob) (w.heap.size + 1 + 1) 77 ((C.setIfInBounds (j * 2) (.int .i64 kc1)).setIfInBounds (j * 2 + 1) (.bool kc2)) ∧ Blk (((w3.setCell ⟨w.heap.size + 1 + 1, j * 2, none⟩ (.int .i64 kc1)).setCell ⟨w.heap.size + 1 + 1, j * 2 + 1, none⟩ (.bool kc2)).alloc ob) w.heap.size 30 #[.int .i64 (m : Nat), .int .i64 e.n, .int .i64 e.m, .int .i64 e.kind, .int .i64 e.lit.k, .int .i64 e.lit.n, .string e.lit.s, .slice (some ⟨b, o, none⟩) e.args.length c, .slice R e.rels.length d]) := fun ob =>
              Lib.hid ⟨al ((H3.out.1.setCell (p := ⟨w.heap.size + 1 + 1, j * 2, none⟩) (by simp <;> omega) _).setCell (p := ⟨w.heap.size + 1 + 1, j * 2 + 1, none⟩) (by simp <;> omega) _) _, ((H3.out.2.1.far (by simp) _).far (by simp) _).alloc _, ((hB3.set_ _ _).set_ _ _).alloc _, ((H3.out.2.2.2.far (by simp <;> omega) _).far (by simp <;> omega) _).alloc _⟩
            have HCo : Hid (((C.setIfInBounds (j * 2) (.int .i64 kc1)).setIfInBounds (j * 2 + 1) (.bool kc2)).size = e.args.length * 2 ∧ CoAt ((C.setIfInBounds (j * 2) (.int .i64 kc1)).setIfInBounds (j * 2 + 1) (.bool kc2)) (ks ++ [(kc1, kc2)])) := Lib.hid ⟨by simpa using hCs, by
              have := HK.out.2.2.2.snoc (kc1, kc2) hCs (by rw [HK.out.2.1]; exact hlt)
              rwa [HK.out.2.1] at this⟩
            clear hB3
            go_wp2_with fail
            exact ⟨⟨j + 1, _, ks ++ [(kc1, kc2)], by omega, by go_num, HF _, ⟨HCo.out.1, by rw [List.length_append, HK.out.2.1]; rfl, HN.out, HCo.out.2⟩⟩, by simp [intOf]; omega⟩
        · have hlf : decide ((j : Int) < (e.args.length : Int)) = false := decide_eq_false (by omega)
          have hjl : j = e.args.length := by omega
          have HV2 : Hid (kindE cs e = kindP m ks ∧ ks.length = e.args.length) := Lib.hid (by
            have h := HK.out.2.2.1
            rw [List.take_of_length_le (by omega)] at h
            exact ⟨by rw [HV.out, h], by rw [HK.out.2.1, hjl]⟩)
          have HKo := kindOf_any m (some ⟨w.heap.size + 1 + 1, 0, none⟩) e.args.length ks wr hm4 hm25 (HK.out.2.2.2.reads HW.out.2.2.1) (by rw [HV2.out.2]; exact HML.out.2) (by rw [HV2.out.2]; have := HML.out.1; omega) (HA.out.1.thn HW.out.1)
          rw [HV2.out.2] at HKo
          have HKo := Lib.hid HKo
          have y0 := HW.out.2.2.2.cell 0
          simp only [List.getElem?_toArray, List.getElem?_cons_zero] at y0
          clear hjl
          cases hr : kindP m ks with
          | none =>
            have HR : Hid (kindE cs e = none) := Lib.hid (by rw [HV2.out.1, hr])
            rw [hr] at HKo
            unfold coV at HKo
            clear hr
            go_wp2_with fail
            refine HKo.out.mono ?_
            rintro x w3 ⟨rfl, hb3⟩
            have H3 : Hid (Below w.heap.size w w3 ∧ Blk w3 (w.heap.size + 1) 77 #[.int .i64 0, .bool false]) := Lib.hid ⟨thn HW.out.1 hb3, HW.out.2.1.below hb3 HW.out.2.1.lt⟩
            clear hb3 y0
            have hrb := H3.out.2
            have f0 := hrb.frozen 0
            have f1 := hrb.frozen 1
            have d0 := hrb.cell 0
            have d1 := hrb.cell 1
            have hrl := hrb.lt
            simp only [List.getElem?_toArray, List.getElem?_cons_succ, List.getElem?_cons_zero] at d0 d1
            go_wp2_with fail
            have HB := (hrb.set_ 0 (.int .i64 0)).set_ 1 (.bool false)
            have k0 := HB.cell 0
            have k1 := HB.cell 1
            simp at k0 k1
            exact bodyPost_ret (v := .tuple #[.agg #[.int .i64 0, .bool false], .bool false]) (by simp [results, Tryz.results81, go_sem, k0, k1]) rfl ⟨by rw [HR.out]; rfl, (H3.out.1.setCell (p := ⟨w.heap.size + 1, 0, none⟩) (by simp <;> omega) _).setCell (p := ⟨w.heap.size + 1, 1, none⟩) (by simp <;> omega) _⟩
          | some kc =>
            obtain ⟨kc1, kc2⟩ := kc
            have HR : Hid (kindE cs e = some (kc1, kc2)) := Lib.hid (by rw [HV2.out.1, hr])
            rw [hr] at HKo
            unfold coV at HKo
            clear hr
            go_wp2_with fail
            refine HKo.out.mono ?_
            rintro x w3 ⟨rfl, hb3⟩
            have H3 : Hid (Below w.heap.size w w3 ∧ Blk w3 (w.heap.size + 1) 77 #[.int .i64 0, .bool false]) := Lib.hid ⟨thn HW.out.1 hb3, HW.out.2.1.below hb3 HW.out.2.1.lt⟩
            clear hb3 y0
            have hrb := H3.out.2
            have f0 := hrb.frozen 0
            have f1 := hrb.frozen 1
            have d0 := hrb.cell 0
            have d1 := hrb.cell 1
            have hrl := hrb.lt
            simp only [List.getElem?_toArray, List.getElem?_cons_succ, List.getElem?_cons_zero] at d0 d1
            go_wp2_with fail
            have HB := (hrb.set_ 0 (.int .i64 kc1)).set_ 1 (.bool kc2)
            have k0 := HB.cell 0
            have k1 := HB.cell 1
            simp at k0 k1
            exact bodyPost_ret (v := .tuple #[.agg #[.int .i64 kc1, .bool kc2], .bool true]) (by simp [results, Tryz.results81, go_sem, k0, k1]) rfl ⟨by rw [HR.out]; rfl, (H3.out.1.setCell (p := ⟨w.heap.size + 1, 0, none⟩) (by simp <;> omega) _).setCell (p := ⟨w.heap.size + 1, 1, none⟩) (by simp <;> omega) _⟩
end Go.Proofs.YtdiehgfldndgbaaGreatDoor
