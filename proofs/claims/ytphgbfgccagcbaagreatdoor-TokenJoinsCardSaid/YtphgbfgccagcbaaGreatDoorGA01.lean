/-
  Plain: PLAIN MATHEMATICS of the values: what a text is, what a value is, how two are compared. No program stands in it.
  Num: A NUMBER of 64 bits (ahead of package value's texts, which have it in Val10).
  TokM: MATHEMATICS of tokens: what stands at the beginning of a string, the tokens of a string, of joined texts, where they stand. No program stands in it.
-/
import Derived.Test.YtphgbfgccagcbaaGreatDoorRows
import Derived.Below
import Derived.Lib.Hide
import Derived.Laws.OwnMore
import Derived.Deep.AppendLies
import Derived.Deep.Draws
import Derived.Laws.Rows
namespace Go.Proofs.YtphgbfgccagcbaaGreatDoor
open Go.RowKit

/-- a byte that a text may have -/
def okByte (c : UInt8) : Bool := decide (32 ≤ (c.toNat : Int)) && decide ((c.toNat : Int) ≤ 126)
/-- all bytes are printable -/
def okBytes (l : List UInt8) : Bool := l.all okByte
/-- a text -/
def okText (l : List UInt8) : Bool := decide (l.length ≤ 200) && okBytes l
/-- a value -/
def okVal (k n : Int) (l : List UInt8) : Bool :=
  if k = 0 then n == 0 && l.isEmpty
  else if k = 1 then l.isEmpty
  else if k = 2 then (n == 0 || n == 1) && l.isEmpty
  else if k = 3 then n == 0 && okText l
  else false

theorem okBytes_snoc (l : List UInt8) (c : UInt8) : okBytes (l ++ [c]) = (okBytes l && okByte c) := by
  simp [okBytes]
theorem okBytes_bad (s : ByteArray) (k : Nat) (h : k < s.size) (hb : okByte s[k] = false) : okBytes s.data.toList = false := by
  unfold okBytes
  rw [List.all_eq_false]
  have hm : s[k] ∈ s.data.toList := Array.mem_toList_iff.2 (Array.getElem_mem (xs := s.data) (i := k) h)
  exact ⟨s[k], hm, by simp [hb]⟩
theorem okText_bad (s : ByteArray) (k : Nat) (h : k < s.size) (hb : okByte s[k] = false) : okText s.data.toList = false := by
  unfold okText; rw [okBytes_bad s k h hb]; simp
theorem okByte_iff (c : UInt8) : okByte c = true ↔ 32 ≤ (c.toNat : Int) ∧ (c.toNat : Int) ≤ 126 := by
  unfold okByte; simp only [Bool.and_eq_true, decide_eq_true_eq]
theorem okByte_no (c : UInt8) : okByte c = false ↔ (c.toNat : Int) < 32 ∨ 126 < (c.toNat : Int) := by
  rw [Bool.eq_false_iff, Ne, okByte_iff]; omega
/-- a value of the program: its Kind, its Int, its Text -/
structure V where
  k : Int
  n : Int
  s : ByteArray
def V.cells (v : V) : List Value := [.int .i64 v.k, .int .i64 v.n, .string v.s]
def V.ok (v : V) : Bool := okVal v.k v.n v.s.data.toList
/-- the slice value '.slice A n c' reads as these values, and lies below block B -/
def VReads (w : World) (B : Nat) (A : Option Addr) (l : List V) : Prop :=
  0 < l.length → ∃ b o, A = some ⟨b, o, none⟩ ∧ b < B ∧ ∀ i (v : V), l[i]? = some v →
    w.cell? ⟨b, o + i * 3, none⟩ = some (.int .i64 v.k) ∧ w.cell? ⟨b, o + i * 3 + 1, none⟩ = some (.int .i64 v.n) ∧ w.cell? ⟨b, o + i * 3 + 2, none⟩ = some (.string v.s)
theorem VReads.below {w w' : World} {B B' : Nat} {A : Option Addr} {l : List V} (h : VReads w B A l) (hb : Below B w w') (hB : B ≤ B') : VReads w' B' A l := fun h0 => by
  obtain ⟨b, o, rfl, hblk, hc⟩ := h h0
  refine ⟨b, o, rfl, by omega, fun i v hi => ?_⟩
  obtain ⟨c0, c1, c2⟩ := hc i v hi
  exact ⟨(hb.cell (p := ⟨b, _, none⟩) hblk).trans c0, (hb.cell (p := ⟨b, _, none⟩) hblk).trans c1, (hb.cell (p := ⟨b, _, none⟩) hblk).trans c2⟩
theorem VReads.at_ {w : World} {B : Nat} {A : Option Addr} {l : List V} (h : VReads w B A l) {i : Nat} (hi : i < l.length) : ∃ b o, A = some ⟨b, o, none⟩ ∧ b < B ∧
    w.cell? ⟨b, o + i * 3, none⟩ = some (.int .i64 l[i].k) ∧ w.cell? ⟨b, o + i * 3 + 1, none⟩ = some (.int .i64 l[i].n) ∧ w.cell? ⟨b, o + i * 3 + 2, none⟩ = some (.string l[i].s) := by
  obtain ⟨b, o, rfl, hblk, hc⟩ := h (by omega)
  exact ⟨b, o, rfl, hblk, hc i _ (List.getElem?_eq_getElem hi)⟩
/-- every text fits -/
def VFit (l : List V) : Prop := ∀ v ∈ l, v.s.size ≤ maxLen
theorem take_snoc (s : ByteArray) (k : Nat) (h : k < s.size) : s.data.toList.take (k + 1) = s.data.toList.take k ++ [s[k]] := by
  rw [List.take_succ_eq_append_getElem (by simpa using h)]; rfl

/-- block g is just these cells, none frozen -/
def Blk (w : World) (g : Nat) (t : TypeId) (cs : Array Value) : Prop := w.heap[g]? = some (.cells cs t (0, 0))
section
variable {w w' : World} {g : Nat} {t : TypeId} {cs : Array Value}
theorem Blk.lt (h : Blk w g t cs) : g < w.heap.size := by
  rcases Nat.lt_or_ge g w.heap.size with hlt | hge
  · exact hlt
  · unfold Blk at h; rw [Array.getElem?_eq_none hge] at h; cases h
theorem Blk.cell (h : Blk w g t cs) (i : Nat) : w.cell? ⟨g, i, none⟩ = cs[i]? := cell_of_row w g i cs t (0, 0) h
theorem Blk.frozen (h : Blk w g t cs) (i : Nat) : w.frozen? ⟨g, i, none⟩ = false := by
  unfold Blk at h
  simp [World.frozen?, h]
theorem Blk.new (w : World) (t : TypeId) (cs : Array Value) : Blk (w.alloc (.cells cs t)) w.heap.size t cs := heap_alloc_new w _
theorem Blk.new' {w : World} {t : TypeId} {cs : Array Value} {g : Nat} (h : w.heap.size = g) : Blk (w.alloc (.cells cs t)) g t cs := by subst h; exact Blk.new w t cs
theorem Blk.alloc (h : Blk w g t cs) (o : Obj) : Blk (w.alloc o) g t cs := (Below.heap_alloc w o g h.lt).trans h
theorem Blk.set_ (h : Blk w g t cs) (i : Nat) (u : Value) : Blk (w.setCell ⟨g, i, none⟩ u) g t (cs.setIfInBounds i u) := by
  unfold Blk at h ⊢
  simp [World.setCell, Array.getElem?_modify, h]
theorem Blk.far (h : Blk w g t cs) {p : Addr} (hp : g ≠ p.block) (u : Value) : Blk (w.setCell p u) g t cs := (Below.heap_setCell w p u g hp).trans h
theorem Blk.below {B : Nat} (h : Blk w g t cs) (hb : Below B w w') (hg : g < B) : Blk w' g t cs := (hb.block g hg).trans h
theorem Blk.drewN (h : Blk w g t cs) (n : Nat) : Blk (w.drewN n) g t cs := h
end
theorem thn {w w0 w1 : World} (h : Below w.heap.size w w0) (h1 : Below w0.heap.size w0 w1) : Below w.heap.size w w1 := h.trans (h1.mono h.size)
theorem al {w w0 : World} (h : Below w.heap.size w w0) (o : Obj) : Below w.heap.size w (w0.alloc o) := h.alloc h.size o
theorem st3 {w w0 : World} {g : Nat} (h : Below w.heap.size w w0) (hg : w.heap.size ≤ g) (a b c : Value) :
    Below w.heap.size w (((w0.setCell ⟨g, 0, none⟩ a).setCell ⟨g, 1, none⟩ b).setCell ⟨g, 2, none⟩ c) :=
  ((h.setCell hg _).setCell hg _).setCell hg _
/-- a block of three cells -/
theorem Blk.three {w : World} {g : Nat} {t : TypeId} {a b c : Value} (h : Blk w g t #[a, b, c]) :
    (w.cell? ⟨g, 0, none⟩ = some a ∧ w.cell? ⟨g, 1, none⟩ = some b ∧ w.cell? ⟨g, 2, none⟩ = some c) ∧
    (w.frozen? ⟨g, 0, none⟩ = false ∧ w.frozen? ⟨g, 1, none⟩ = false ∧ w.frozen? ⟨g, 2, none⟩ = false) :=
  ⟨⟨h.cell 0, h.cell 1, h.cell 2⟩, ⟨h.frozen 0, h.frozen 1, h.frozen 2⟩⟩
theorem Blk.three_set {w : World} {g : Nat} {t : TypeId} {a b c : Value} (h : Blk w g t #[a, b, c]) (a' b' c' : Value) :
    Blk (((w.setCell ⟨g, 0, none⟩ a').setCell ⟨g, 1, none⟩ b').setCell ⟨g, 2, none⟩ c') g t #[a', b', c'] := by
  have := ((h.set_ 0 a').set_ 1 b').set_ 2 c'
  simpa using this
theorem below_drewN {B : Nat} {a w : World} (h : Below B a w) (n : Nat) : Below B a (w.drewN n) := ⟨h.os, h.tape, h.output, h.size, h.block⟩
end Go.Proofs.YtphgbfgccagcbaaGreatDoor
namespace Go.Proofs.YtphgbfgccagcbaaGreatDoor
def I64 (n : Int) : Prop := -9223372036854775808 ≤ n ∧ n ≤ 9223372036854775807
end Go.Proofs.YtphgbfgccagcbaaGreatDoor
namespace Go.Proofs.YtphgbfgccagcbaaGreatDoor.Tok
/-- a byte in small letters -/
def sml (c : UInt8) : UInt8 := if 65 ≤ c.toNat ∧ c.toNat ≤ 90 then c + 32 else c
/-- a byte that a name may have behind its first one -/
def inNm (c : UInt8) : Bool := decide (97 ≤ c.toNat ∧ c.toNat ≤ 122) || decide (48 ≤ c.toNat ∧ c.toNat ≤ 57) || decide (c.toNat = 95)
/-- how long the text at the beginning is, its first quote left out, or 0 -/
def quoG : List UInt8 → Nat
  | [] => 0
  | c :: l => if c = 39 then (match l with
      | [] => 1
      | d :: r => if d = 39 then (if quoG r = 0 then 0 else quoG r + 2) else 1)
    else (if quoG l = 0 then 0 else quoG l + 1)
/-- the run of letters, digits and _ with which it begins, in small letters -/
def run : List UInt8 → List UInt8
  | [] => []
  | c :: l => if inNm (sml c) then sml c :: run l else []
def signs : List (List UInt8) := [[60, 61], [62, 61], [60, 62], [124, 124], [40], [41], [44], [46], [42], [43], [45], [47], [37], [61], [60], [62], [59]]
/-- the first of some signs with which it begins -/
def signOf (l : List UInt8) : List (List UInt8) → Option (List UInt8)
  | [] => none
  | x :: r => if x.isPrefixOf l then some x else signOf l r
section
variable (isW isF isN isT : List UInt8 → Bool)
/-- the token at the beginning: its kind, its text -/
def one (l : List UInt8) : Option (Nat × List UInt8) :=
  match l with
  | [] => none
  | c :: r => if c = 39 then (if quoG r = 0 then none else if isT (l.take (quoG r + 1)) then some (4, l.take (quoG r + 1)) else none)
    else if run l = [] then (signOf l signs).map (fun x => (5, x))
    else if isW (run l) then some (1, run l) else if isF (run l) then some (2, run l) else if isN (run l) then some (3, run l) else none
/-- the tokens, with the places where they stand -/
def toks : Nat → Nat → List UInt8 → Option (List (Nat × List UInt8 × Nat))
  | _, _, [] => some []
  | 0, _, _ :: _ => none
  | f + 1, at_, c :: l => if c = 32 ∨ c = 10 then toks f (at_ + 1) l
    else match one isW isF isN isT (c :: l) with
      | none => none
      | some (k, t) => match toks f (at_ + t.length) ((c :: l).drop t.length) with
        | none => none
        | some r => some ((k, t, at_) :: r)
/-- a text of a token by itself: whatever follows behind a blank -/
def solid (k : Nat) (t : List UInt8) : Prop := t ≠ [] ∧ (∀ c, t.head? = some c → c ≠ 32 ∧ c ≠ 10) ∧ ∀ r, (r = [] ∨ ∃ r', r = 32 :: r') → one isW isF isN isT (t ++ r) = some (k, t)
end
theorem inNm_sml_small {c : UInt8} (_ : inNm (sml c) = true) : sml (sml c) = sml c := by
  by_cases h1 : 65 ≤ c.toNat ∧ c.toNat ≤ 90
  · have e : sml c = c + 32 := if_pos h1
    have : (c + 32).toNat = c.toNat + 32 := by
      rw [UInt8.toNat_add]; simp; omega
    rw [e]
    exact if_neg (by omega)
  · have e : sml c = c := if_neg h1
    rw [e, e]
theorem run_run : ∀ l r, (r = [] ∨ ∃ r', r = 32 :: r') → run (run l ++ r) = run l
  | [], r, h => by
    rcases h with rfl | ⟨r', rfl⟩
    · rfl
    · simp [run, sml, inNm]
  | c :: l, r, h => by
    by_cases hc : inNm (sml c) = true
    · have e : run (c :: l) = sml c :: run l := by rw [run, if_pos hc]
      rw [e, List.cons_append, run, inNm_sml_small hc, if_pos hc, run_run l r h]
    · have e : run (c :: l) = [] := by rw [run, if_neg hc]
      rw [e]
      exact run_run [] r h
theorem run_len : ∀ l, (run l).length ≤ l.length
  | [] => Nat.le_refl _
  | c :: l => by
    have := run_len l
    rw [run]; split <;> simp; omega
theorem run_at : ∀ (l : List UInt8) (i : Nat) (h : i < (run l).length), (run l)[i] = sml (l[i]'(Nat.lt_of_lt_of_le h (run_len l)))
  | [], i, h => by simp [run] at h
  | c :: l, i, h => by
    by_cases hc : inNm (sml c) = true
    · have e : run (c :: l) = sml c :: run l := by rw [run, if_pos hc]
      cases i with
      | zero => simp [e]
      | succ i =>
        have h2 : i < (run l).length := by rw [e] at h; simpa using h
        have := run_at l i h2
        simp [e, this]
    · have e : run (c :: l) = [] := by rw [run, if_neg hc]
      rw [e] at h; cases h
theorem run_head {l : List UInt8} {c : UInt8} (h : (run l).head? = some c) : inNm c = true := by
  cases l with
  | nil => simp [run] at h
  | cons d l =>
    rw [run] at h
    split at h
    · rename_i hd
      simp at h; subst h; exact hd
    · simp at h
theorem quo_le : ∀ l, quoG l ≤ l.length
  | [] => Nat.le_refl _
  | [c] => by unfold quoG; split <;> simp [quoG]
  | c :: d :: r => by
    have h1 := quo_le r
    have h2 := quo_le (d :: r)
    unfold quoG
    split
    · simp only
      split
      · split <;> simp only [List.length_cons] <;> omega
      · simp
    · split <;> simp only [List.length_cons] at * <;> omega
/-- the text that was read, and a blank behind it -/
theorem quo_take : ∀ (l r : List UInt8), quoG l ≠ 0 → (r = [] ∨ ∃ r', r = 32 :: r') → quoG (l.take (quoG l) ++ r) = quoG l
  | [], _, h, _ => absurd rfl h
  | [c], r, h, hr => by
    by_cases hc : c = 39
    · subst hc
      have e : quoG [39] = 1 := by simp [quoG]
      rw [e]
      rcases hr with rfl | ⟨r', rfl⟩ <;> simp [quoG]
    · exfalso; apply h; simp [quoG, hc]
  | c :: d :: l, r, h, hr => by
    by_cases hc : c = 39
    · subst hc
      by_cases hd : d = 39
      · subst hd
        have e : quoG (39 :: 39 :: l) = if quoG l = 0 then 0 else quoG l + 2 := by simp [quoG]
        rw [e] at h ⊢
        by_cases hl : quoG l = 0
        · rw [if_pos hl] at h; exact absurd rfl h
        · rw [if_neg hl]
          have ih := quo_take l r hl hr
          simp only [List.take_succ_cons, List.cons_append]
          have e2 : quoG (39 :: 39 :: (l.take (quoG l) ++ r)) = if quoG (l.take (quoG l) ++ r) = 0 then 0 else quoG (l.take (quoG l) ++ r) + 2 := by simp [quoG]
          rw [e2, ih, if_neg hl]
      · have e : quoG (39 :: d :: l) = 1 := by simp [quoG, hd]
        rw [e]
        rcases hr with rfl | ⟨r', rfl⟩ <;> simp [quoG]
    · have e : quoG (c :: d :: l) = if quoG (d :: l) = 0 then 0 else quoG (d :: l) + 1 := by rw [quoG, if_neg hc]
      rw [e] at h ⊢
      by_cases hl : quoG (d :: l) = 0
      · rw [if_pos hl] at h; exact absurd rfl h
      · rw [if_neg hl]
        have ih := quo_take (d :: l) r hl hr
        simp only [List.take_succ_cons, List.cons_append]
        have e2 : quoG (c :: (d :: l).take (quoG (d :: l)) ++ r) = if quoG ((d :: l).take (quoG (d :: l)) ++ r) = 0 then 0 else quoG ((d :: l).take (quoG (d :: l)) ++ r) + 1 := by
          rw [List.cons_append, quoG.eq_def]
          simp only [if_neg hc]
        rw [← List.cons_append, e2, ih, if_neg hl]
theorem sign_pre : ∀ {l x : List UInt8} {s : List (List UInt8)}, signOf l s = some x → x ∈ s ∧ x.isPrefixOf l = true
  | l, x, [], h => by simp [signOf] at h
  | l, x, y :: s, h => by
    rw [signOf] at h
    split at h
    · rename_i hy
      injection h with h; subst h
      exact ⟨List.mem_cons_self .., hy⟩
    · have := sign_pre h
      exact ⟨List.mem_cons_of_mem _ this.1, this.2⟩
/-- a sign, and a blank behind it -/
theorem sign_again {l x r : List UInt8} (h : signOf l signs = some x) (hr : r = [] ∨ ∃ r', r = 32 :: r') : signOf (x ++ r) signs = some x := by
  have hm := (sign_pre h).1
  unfold signs at hm
  simp only [List.mem_cons, List.not_mem_nil, or_false] at hm
  rcases hr with rfl | ⟨r', rfl⟩ <;> rcases hm with rfl | rfl | rfl | rfl | rfl | rfl | rfl | rfl | rfl | rfl | rfl | rfl | rfl | rfl | rfl | rfl | rfl <;> simp [signOf, signs, List.isPrefixOf]
theorem sign_run {l x : List UInt8} (h : signOf l signs = some x) (r : List UInt8) : x ≠ [] ∧ run (x ++ r) = [] ∧ ∀ c, x.head? = some c → c ≠ 39 ∧ c ≠ 32 ∧ c ≠ 10 := by
  have hm := (sign_pre h).1
  unfold signs at hm
  simp only [List.mem_cons, List.not_mem_nil, or_false] at hm
  rcases hm with rfl | rfl | rfl | rfl | rfl | rfl | rfl | rfl | rfl | rfl | rfl | rfl | rfl | rfl | rfl | rfl | rfl <;> exact ⟨by simp, by simp [run, sml, inNm], by intro c hc; simp at hc; subst hc; decide⟩
section
variable {isW isF isN isT : List UInt8 → Bool}
theorem one_solid {l : List UInt8} {k : Nat} {t : List UInt8} (h : one isW isF isN isT l = some (k, t)) : solid isW isF isN isT k t := by
  cases l with
  | nil => simp [one] at h
  | cons c r =>
    rw [one] at h
    split at h
    · rename_i hc
      subst hc
      split at h
      · cases h
      · rename_i hq
        split at h
        · rename_i ht
          injection h with h
          injection h with h1 h2
          subst h1 h2
          refine ⟨by simp, by intro c hc; simp at hc; subst hc; decide, fun s hs => ?_⟩
          have e := quo_take r s hq hs
          have el : (39 :: r).take (quoG r + 1) = 39 :: r.take (quoG r) := rfl
          rw [el, List.cons_append, one, if_pos rfl, e, if_neg hq]
          have e3 : (39 :: (r.take (quoG r) ++ s)).take (quoG r + 1) = 39 :: r.take (quoG r) := by
            rw [List.take_succ_cons]
            congr 1
            have hl : (r.take (quoG r)).length = quoG r := by rw [List.length_take]; have := quo_le r; omega
            rw [List.take_append_of_le_length (by omega), List.take_of_length_le (by omega)]
          rw [e3, ← el, if_pos ht]
        · cases h
    · rename_i hc
      split at h
      · rename_i hr
        cases hs : signOf (c :: r) signs with
        | none => rw [hs] at h; cases h
        | some x =>
          rw [hs] at h
          simp only [Option.map_some, Option.some.injEq, Prod.mk.injEq] at h
          obtain ⟨h1, h2⟩ := h
          subst h1 h2
          have hx := sign_run hs []
          refine ⟨hx.1, fun c hc => (hx.2.2 c hc).2, fun s hs' => ?_⟩
          cases hxl : x with
          | nil => exact absurd hxl hx.1
          | cons d y =>
            have hd := (hx.2.2 d (by rw [hxl]; rfl)).1
            rw [List.cons_append, one, if_neg hd, ← List.cons_append, ← hxl, if_pos (sign_run hs s).2.1, sign_again hs hs']
            rfl
      · rename_i hr
        have base : ∀ s, (s = [] ∨ ∃ r', s = 32 :: r') → run (run (c :: r) ++ s) = run (c :: r) := fun s hs => run_run _ s hs
        generalize hu : run (c :: r) = u at *
        have hhd : ∀ d, u.head? = some d → inNm d = true := fun d hd => run_head (by rw [hu]; exact hd)
        have n39 : ∀ d, inNm d = true → d ≠ 39 ∧ d ≠ 32 ∧ d ≠ 10 := fun d hd => by
          refine ⟨?_, ?_, ?_⟩ <;> (intro e; subst e; revert hd; decide)
        have key : ∀ kk, (if isW u then some (1, u) else if isF u then some (2, u) else if isN u then some (3, u) else none) = some (kk, t) → kk = k → solid isW isF isN isT k t := by
          intro kk hk ek
          subst ek
          have ht : t = u := by
            split at hk
            · injection hk with hk; injection hk with _ hk; exact hk.symm
            · split at hk
              · injection hk with hk; injection hk with _ hk; exact hk.symm
              · split at hk
                · injection hk with hk; injection hk with _ hk; exact hk.symm
                · cases hk
          subst ht
          cases ht' : t with
          | nil => exact absurd ht' hr
          | cons d y =>
            have hd := n39 d (hhd d (by rw [ht']; rfl))
            refine ⟨by simp, fun c hc => ?_, fun s hs => ?_⟩
            · simp at hc; subst hc; exact hd.2
            · rw [List.cons_append, one, if_neg hd.1, ← List.cons_append, ← ht', base s hs, if_neg hr]
              exact hk
        exact key k h rfl
/-- a token's bytes in the string: the text itself, or great letters for small ones -/
def asIs (k : Nat) (a b : UInt8) : Prop := a = b ∨ (k ≠ 4 ∧ a + 32 = b ∧ 65 ≤ a.toNat ∧ a.toNat ≤ 90)
theorem sml_asIs (k : Nat) (a : UInt8) (h : k ≠ 4) : asIs k a (sml a) := by
  unfold sml asIs
  split
  · rename_i h1; exact .inr ⟨h, rfl, h1.1, h1.2⟩
  · exact .inl rfl
theorem pre_at {x l : List UInt8} (h : x.isPrefixOf l = true) : ∃ r, l = x ++ r := by
  rw [List.isPrefixOf_iff_prefix] at h
  obtain ⟨r, hr⟩ := h
  exact ⟨r, hr.symm⟩
theorem one_at {l : List UInt8} {k : Nat} {t : List UInt8} (h : one isW isF isN isT l = some (k, t)) :
    t ≠ [] ∧ 1 ≤ k ∧ k ≤ 5 ∧ ∃ hl : t.length ≤ l.length, ∀ i (hi : i < t.length), asIs k (l[i]'(Nat.lt_of_lt_of_le hi hl)) t[i] := by
  have hne := (one_solid h).1
  refine ⟨hne, ?_⟩
  cases l with
  | nil => simp [one] at h
  | cons c r =>
    rw [one] at h
    split at h
    · rename_i hc
      split at h
      · cases h
      · rename_i hq
        split at h
        · injection h with h
          injection h with h1 h2
          subst h1 h2
          refine ⟨by decide, by decide, by rw [List.length_take]; omega, fun i hi => .inl ?_⟩
          rw [List.getElem_take]
        · cases h
    · split at h
      · cases hsg : signOf (c :: r) signs with
        | none => rw [hsg] at h; cases h
        | some x =>
          rw [hsg] at h
          simp only [Option.map_some, Option.some.injEq, Prod.mk.injEq] at h
          obtain ⟨h1, h2⟩ := h
          subst h1 h2
          obtain ⟨q, hq⟩ := pre_at (sign_pre hsg).2
          refine ⟨by decide, by decide, by rw [hq]; simp, fun i hi => .inl ?_⟩
          simp only [hq]
          rw [List.getElem_append_left hi]
      · have ht : t = run (c :: r) ∧ 1 ≤ k ∧ k ≤ 3 := by
          split at h
          · injection h with h; injection h with h0 h; exact ⟨h.symm, by omega, by omega⟩
          · split at h
            · injection h with h; injection h with h0 h; exact ⟨h.symm, by omega, by omega⟩
            · split at h
              · injection h with h; injection h with h0 h; exact ⟨h.symm, by omega, by omega⟩
              · cases h
        obtain ⟨rfl, hk1, hk2⟩ := ht
        exact ⟨hk1, by omega, run_len _, fun i hi => by rw [run_at (c :: r) i hi]; exact sml_asIs k _ (by omega)⟩
/-- blanks and line feeds -/
def blank (c : UInt8) : Prop := c = 32 ∨ c = 10
/-- the tokens stand where they say in the list s, from the place a on -/
def stand (s : List UInt8) : Nat → List (Nat × List UInt8 × Nat) → Prop
  | a, [] => ∀ i (h : i < s.length), a ≤ i → blank s[i]
  | a, (k, t, p) :: ts => a ≤ p ∧ t ≠ [] ∧ 1 ≤ k ∧ k ≤ 5 ∧ (∃ h : p + t.length ≤ s.length, (∀ i (hi : i < t.length), asIs k (s[p + i]'(by omega)) t[i]) ∧ ∀ i (hi : i < p), a ≤ i → blank (s[i]'(by omega))) ∧ stand s (p + t.length) ts
theorem stand_earlier {s : List UInt8} {a : Nat} (h0 : a < s.length) (hb : blank s[a]) : ∀ {ts : List (Nat × List UInt8 × Nat)}, stand s (a + 1) ts → stand s a ts
  | [], h => fun i hi hai => by
    by_cases e : i = a
    · subst e; exact hb
    · exact h i hi (by omega)
  | (k, t, p) :: ts, ⟨h1, h2, h3, h4, ⟨h5, h6, h7⟩, h8⟩ => ⟨by omega, h2, h3, h4, ⟨h5, h6, fun i hi hai => by
    by_cases e : i = a
    · subst e; exact hb
    · exact h7 i hi (by omega)⟩, h8⟩
theorem toks_stand (s : List UInt8) : ∀ (f a : Nat) (l : List UInt8) (ts : List (Nat × List UInt8 × Nat)), a + l.length = s.length → l = s.drop a → toks isW isF isN isT f a l = some ts → stand s a ts
  | f, a, [], ts, h1, h2, h => by
    simp only [toks, Option.some.injEq] at h
    subst h
    intro i hi hai
    simp at h1
    omega
  | 0, a, c :: l, ts, h1, h2, h => by simp [toks] at h
  | f + 1, a, c :: l, ts, h1, h2, h => by
    have ha : a < s.length := by simp at h1; omega
    have hd : s.drop a = s[a] :: s.drop (a + 1) := List.drop_eq_getElem_cons ha
    rw [hd] at h2
    injection h2 with h3 h4
    rw [toks] at h
    split at h
    · rename_i hb
      exact stand_earlier ha (by rw [← h3]; exact hb) (toks_stand s f _ l ts (by simp at h1; omega) h4 h)
    · rename_i hb
      split at h
      · cases h
      · rename_i k t ho
        split at h
        · cases h
        · rename_i r hr
          injection h with h
          subst h
          obtain ⟨t1, t2, t3, hl, t4⟩ := one_at ho
          have hcl : c :: l = s.drop a := by rw [hd, h3, h4]
          have hlen : t.length ≤ s.length - a := by rw [hcl, List.length_drop] at hl; exact hl
          refine ⟨Nat.le_refl _, t1, t2, t3, ⟨by omega, fun i hi => ?_, fun i hi hai => by omega⟩, ?_⟩
          · have := t4 i hi
            simp only [hcl, List.getElem_drop] at this
            exact this
          · refine toks_stand s f _ _ r ?_ ?_ hr
            · rw [List.length_drop]; simp only [List.length_cons] at h1 hl ⊢; omega
            · rw [hcl, List.drop_drop]
/-- the texts with one blank between any two -/
def join : List (List UInt8) → List UInt8
  | [] => []
  | [t] => t
  | t :: u :: l => t ++ 32 :: join (u :: l)
theorem toks_solid : ∀ (f a : Nat) (l : List UInt8) (ts : List (Nat × List UInt8 × Nat)), toks isW isF isN isT f a l = some ts → ∀ x ∈ ts, solid isW isF isN isT x.1 x.2.1
  | f, a, [], ts, h => by
    simp only [toks, Option.some.injEq] at h
    subst h
    intro x hx; cases hx
  | 0, a, c :: l, ts, h => by simp [toks] at h
  | f + 1, a, c :: l, ts, h => by
    rw [toks] at h
    split at h
    · exact toks_solid f _ l ts h
    · split at h
      · cases h
      · rename_i k t ho
        split at h
        · cases h
        · rename_i r hr
          injection h with h
          subst h
          intro x hx
          rcases List.mem_cons.1 hx with rfl | hx
          · exact one_solid ho
          · exact toks_solid f _ _ r hr x hx
/-- the tokens of the joined texts -/
theorem toks_join : ∀ (ts : List (Nat × List UInt8)) (f a : Nat), (∀ x ∈ ts, solid isW isF isN isT x.1 x.2) → (join (ts.map (·.2))).length ≤ f →
    ∃ us, toks isW isF isN isT f a (join (ts.map (·.2))) = some us ∧ us.map (fun x => (x.1, x.2.1)) = ts
  | [], f, a, _, _ => ⟨[], by cases f <;> simp [join, toks], rfl⟩
  | [(k, t)], f, a, h, hf => by
    obtain ⟨h1, h2, h3⟩ := h (k, t) (by simp)
    have h3 := h3 [] (.inl rfl)
    rw [List.append_nil] at h3
    change t ≠ [] at h1
    change (join [t]).length ≤ f at hf
    show ∃ us, toks isW isF isN isT f a (join [t]) = some us ∧ _
    rw [join] at hf ⊢
    cases t with
    | nil => exact absurd rfl h1
    | cons c r =>
      obtain ⟨g, rfl⟩ : ∃ g, f = g + 1 := ⟨f - 1, by simp at hf; omega⟩
      have hc := h2 c rfl
      have h3' : one isW isF isN isT (c :: r) = some (k, c :: r) := h3
      refine ⟨[(k, c :: r, a)], ?_, rfl⟩
      rw [toks, if_neg (by rintro (e | e); exact hc.1 e; exact hc.2 e), h3']
      simp only [List.drop_length]
      rw [toks]
  | (k, t) :: (k2, t2) :: ts, f, a, h, hf => by
    obtain ⟨h1, h2, h3⟩ := h (k, t) (by simp)
    change t ≠ [] at h1
    have e : join (((k, t) :: (k2, t2) :: ts).map (·.2)) = t ++ 32 :: join (((k2, t2) :: ts).map (·.2)) := rfl
    rw [e] at hf ⊢
    have h3 := h3 (32 :: join (((k2, t2) :: ts).map (·.2))) (.inr ⟨_, rfl⟩)
    generalize hJ : join (((k2, t2) :: ts).map (·.2)) = J at *
    cases t with
    | nil => exact absurd rfl h1
    | cons c r =>
      simp only [List.length_append, List.length_cons] at hf
      obtain ⟨g, rfl⟩ : ∃ g, f = g + 1 := ⟨f - 1, by omega⟩
      obtain ⟨g2, rfl⟩ : ∃ g2, g = g2 + 1 := ⟨g - 1, by omega⟩
      obtain ⟨us, hu1, hu2⟩ := toks_join ((k2, t2) :: ts) g2 (a + (c :: r).length + 1) (fun x hx => h x (List.mem_cons_of_mem _ hx)) (by rw [hJ]; omega)
      rw [hJ] at hu1
      have hc := h2 c rfl
      have h3' : one isW isF isN isT (c :: (r ++ 32 :: J)) = some (k, c :: r) := h3
      refine ⟨(k, c :: r, a) :: us, ?_, by rw [List.map_cons, hu2]⟩
      rw [List.cons_append, toks, if_neg (by rintro (e | e); exact hc.1 e; exact hc.2 e), h3']
      simp only
      have ed : (c :: (r ++ 32 :: J)).drop (c :: r).length = 32 :: J := by
        rw [← List.cons_append, List.drop_left]
      rw [ed, toks, if_pos (.inl rfl), hu1]
/-- as much fuel as there are bytes is enough -/
theorem toks_fuel : ∀ (f g a : Nat) (l : List UInt8), l.length ≤ f → l.length ≤ g → toks isW isF isN isT f a l = toks isW isF isN isT g a l
  | f, g, a, [], _, _ => by simp [toks]
  | 0, g, a, c :: l, h, _ => by simp at h
  | f, 0, a, c :: l, _, h => by simp at h
  | f + 1, g + 1, a, c :: l, hf, hg => by
    simp only [List.length_cons] at hf hg
    rw [toks, toks]
    split
    · exact toks_fuel f g _ l (by omega) (by omega)
    · cases ho : one isW isF isN isT (c :: l) with
      | none => rfl
      | some x =>
        obtain ⟨k, t⟩ := x
        have h1 := List.length_pos_iff.2 (one_at ho).1
        have h2 : ((c :: l).drop t.length).length ≤ l.length := by rw [List.length_drop, List.length_cons]; omega
        simp only
        rw [toks_fuel f g (a + t.length) ((c :: l).drop t.length) (by omega) (by omega)]
/-- the tokens of a string that begins at the place a -/
def tkz (isW isF isN isT : List UInt8 → Bool) (a : Nat) (l : List UInt8) : Option (List (Nat × List UInt8 × Nat)) := toks isW isF isN isT l.length a l
theorem tkz_nil (a : Nat) : tkz isW isF isN isT a [] = some [] := by simp [tkz, toks]
theorem tkz_blank (a : Nat) {c : UInt8} (l : List UInt8) (h : c = 32 ∨ c = 10) : tkz isW isF isN isT a (c :: l) = tkz isW isF isN isT (a + 1) l := by
  unfold tkz
  rw [List.length_cons, toks, if_pos h]
theorem tkz_none (a : Nat) {c : UInt8} (l : List UInt8) (h : ¬ (c = 32 ∨ c = 10)) (ho : one isW isF isN isT (c :: l) = none) : tkz isW isF isN isT a (c :: l) = none := by
  unfold tkz
  rw [List.length_cons, toks, if_neg h, ho]
theorem tkz_some (a : Nat) {c : UInt8} (l : List UInt8) {k : Nat} {t : List UInt8} (h : ¬ (c = 32 ∨ c = 10)) (ho : one isW isF isN isT (c :: l) = some (k, t)) :
    tkz isW isF isN isT a (c :: l) = (tkz isW isF isN isT (a + t.length) ((c :: l).drop t.length)).map ((k, t, a) :: ·) := by
  unfold tkz
  have h1 := List.length_pos_iff.2 (one_at ho).1
  rw [List.length_cons, toks, if_neg h, ho]
  simp only
  rw [toks_fuel l.length ((c :: l).drop t.length).length _ _ (by rw [List.length_drop, List.length_cons]; omega) (Nat.le_refl _)]
  cases toks isW isF isN isT ((c :: l).drop t.length).length (a + t.length) ((c :: l).drop t.length) <;> rfl
theorem tkz_stand {s : List UInt8} {ts : List (Nat × List UInt8 × Nat)} (h : tkz isW isF isN isT 0 s = some ts) : stand s 0 ts :=
  toks_stand s _ 0 s ts (by simp) rfl h
/-- THE TOKENS OF THE JOINED TEXTS ARE THE TOKENS -/
theorem tkz_join {s : List UInt8} {ts : List (Nat × List UInt8 × Nat)} (h : tkz isW isF isN isT 0 s = some ts) :
    ∃ us, tkz isW isF isN isT 0 (join (ts.map (·.2.1))) = some us ∧ us.map (fun x => (x.1, x.2.1)) = ts.map (fun x => (x.1, x.2.1)) := by
  have hs := toks_solid _ _ _ _ h
  have e : ts.map (·.2.1) = (ts.map fun x => (x.1, x.2.1)).map (·.2) := by rw [List.map_map]; rfl
  rw [e]
  exact toks_join _ _ 0 (fun x hx => by
    obtain ⟨y, hy, rfl⟩ := List.mem_map.1 hx
    exact hs y hy) (Nat.le_refl _)
end
end Go.Proofs.YtphgbfgccagcbaaGreatDoor.Tok
