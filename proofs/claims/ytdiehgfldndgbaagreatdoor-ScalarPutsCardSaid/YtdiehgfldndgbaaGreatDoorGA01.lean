/-
  Grow: A REGION THAT DRAWS ITS ORDER, WHOSE FIRST OPERATIONS LOAD, CALL AND MAKE MEMORY IN ANY ORDER: each is shown ONCE, by what its own operands hold; what stands behind them comes in one order.
  GroP: A REGION THAT DRAWS ITS ORDER (as XGrow), one of whose operations yields in whatever world and may come behind the store that ends the drawn part.
  GroI: A REGION THAT DRAWS ITS ORDER (as XGrow): what each operation makes lies in an interval of its own.
-/
import Derived.StillTail
import Derived.Below
import Derived.Deep.Draws
import Derived.RangeFuncCalls
import Derived.OrdersIn
import Derived.TacticsIn
namespace Go.Proofs.YtdiehgfldndgbaaGreatDoor
open Go.RowKit

def Region.dstOf (ops : Array Oper) (i : Nat) : Option Tmp := (ops[i]?).bind (·.dst)
/-- the values f of the operations S, put into their slots -/
def fillL (ops : Array Oper) (f : Nat → Value) : List Nat → Act → Act
  | [], a => a
  | j :: S, a => fillL ops f S (a.put (Region.dstOf ops j) (f j))
/-- a new block's head -/
def NewPtr (v : Value) (w w' : World) : Prop := ∃ g, v = .pointer (some ⟨g, 0, none⟩) ∧ w.heap.size ≤ g ∧ g < w'.heap.size
/-- what one operation leaves -/
def growPost (D : Nat → Value → World → Prop) (fr : List Nat) (k : Nat) (w' w'' : World) (v : Value) : Prop := Below w'.heap.size w' w'' ∧ D k v w'' ∧ (k ∈ fr → NewPtr v w' w'')
/-- what is asked of operation k, in a world behind w in which its forerunners are done -/
def growOne (P : Program) (ops : Array Oper) (a : Act) (w : World) (pre : List Nat) (D : Nat → Value → World → Prop) (fr : List Nat) (k : Nat) (o : Oper) : Prop :=
  ∀ (f : Nat → Value) (w' : World), Below w.heap.size w w' → (∀ j ∈ pre, D j (f j) w') →
    if Region.wanted o (yielded ops (fillL ops f pre a).tmps) then
      o.wp P (fillL ops f pre a) w' (fun a' w'' => ∃ v, a' = (fillL ops f pre a).put o.dst v ∧ growPost D fr k w' w'' v) (fun _ _ _ => False)
    else D k undef w' ∧ k ∉ fr
def growAll (P : Program) (ops : Array Oper) (a : Act) (w : World) (D : Nat → Value → World → Prop) (fr : List Nat) : Nat → List (List Nat) → List Oper → Prop
  | _, _, [] => True
  | k, pre, o :: rest => growOne P ops a w (pre.headD []) D fr k o ∧ growAll P ops a w D fr (k + 1) pre.tail rest

def Region.growB (md : Region.Mode) (ops : Array Oper) (n : Nat) (pre : List (List Nat)) : Bool :=
  Region.noSelect ops &&
  ((List.range n).all (fun i => (pre.getD i []).all fun j => Region.waitsFor md ops i j && decide (j < n))) &&
  ((List.range n).all (fun i => (List.range n).all fun j => i == j ||
    (match Region.dstOf ops j with
     | none => true
     | some t => (Region.dstOf ops i != some t) && ((pre.getD i []).contains j || !((ops[i]?).any fun o => (o.looksAt ops).contains t))))) &&
  ((List.range n).all (fun i => match ops[i]? with | some o => o.after.all (fun e => !Region.binds md e || decide (e.on < i)) | none => false)) &&
  (decide (n = ops.size) || (decide (n < ops.size) && Region.sinkB md ops n && Region.chainB md ops n)) &&
  Region.seqB md ops (ops.size - n) n (Array.replicate n true ++ Array.replicate (ops.size - n) false)

section
variable {P : Program} {ops : Array Oper} {md : Region.Mode} {w : World}

theorem fillL_append (f : Nat → Value) : ∀ (S T : List Nat) (a : Act), fillL ops f (S ++ T) a = fillL ops f T (fillL ops f S a)
  | [], _, _ => rfl
  | _ :: S, T, _ => fillL_append f S T _
theorem fillL_congr {f g : Nat → Value} : ∀ (S : List Nat) (a : Act), (∀ j ∈ S, f j = g j) → fillL ops f S a = fillL ops g S a
  | [], _, _ => rfl
  | j :: S, a, h => by
    simp only [fillL]
    rw [h j (List.mem_cons_self ..)]
    exact fillL_congr S _ fun k hk => h k (List.mem_cons_of_mem _ hk)
theorem fillL_perm (f : Nat → Value) {S T : List Nat} (hp : S.Perm T) : (∀ x ∈ S, ∀ y ∈ S, x ≠ y → ∀ t, Region.dstOf ops x = some t → Region.dstOf ops y ≠ some t) → ∀ a, fillL ops f S a = fillL ops f T a := by
  induction hp with
  | nil => intro _ _; rfl
  | cons x _ ih => intro h a; exact ih (fun u hu v hv => h u (List.mem_cons_of_mem _ hu) v (List.mem_cons_of_mem _ hv)) _
  | swap x y l =>
    intro h a
    by_cases e : x = y
    · subst e; rfl
    · simp only [fillL]
      rw [Act.put_comm _ _ _ fun t ht => h y (by simp) x (by simp) (Ne.symm e) t ht]
  | trans h1 _ ih1 ih2 => intro h a; rw [ih1 h a]; exact ih2 (fun u hu v hv => h u (h1.mem_iff.2 hu) v (h1.mem_iff.2 hv)) a
theorem put_get_ne {a : Act} {d : Option Tmp} {v : Value} {t : Tmp} (h : d ≠ some t) : (a.put d v).tmps[t]? = a.tmps[t]? := by
  cases d with
  | none => rfl
  | some d =>
    have : d ≠ t := fun e => h (by rw [e])
    simp [Act.put, Array.getElem?_setIfInBounds_ne this]
theorem put_get_eq {a : Act} {v : Value} {t : Tmp} : (a.put (some t) v).tmps[t]? = a.tmps[t]?.map fun _ => v := by
  simp only [Act.put]
  rcases Nat.lt_or_ge t a.tmps.size with h | h
  · simp [h]
  · simp [Array.getElem?_eq_none h]; exact h
theorem fillL_get_not {f : Nat → Value} {t : Tmp} : ∀ (S : List Nat) (a : Act), (∀ j ∈ S, Region.dstOf ops j ≠ some t) → (fillL ops f S a).tmps[t]? = a.tmps[t]?
  | [], _, _ => rfl
  | j :: S, a, h => by
    simp only [fillL]
    rw [fillL_get_not S _ fun k hk => h k (List.mem_cons_of_mem _ hk), put_get_ne (h j (List.mem_cons_self ..))]
theorem fillL_get_mem {f : Nat → Value} {t : Tmp} {i : Nat} (hi : Region.dstOf ops i = some t) : ∀ (S : List Nat) (a : Act), i ∈ S → (∀ j ∈ S, Region.dstOf ops j = some t → j = i) → (fillL ops f S a).tmps[t]? = a.tmps[t]?.map fun _ => f i
  | [], _, h, _ => by cases h
  | j :: S, a, h, hu => by
    simp only [fillL]
    by_cases hj : j = i
    · subst hj
      rw [hi]
      by_cases hS : j ∈ S
      · rw [fillL_get_mem hi S _ hS fun k hk => hu k (List.mem_cons_of_mem _ hk), put_get_eq]
        cases a.tmps[t]? <;> rfl
      · rw [fillL_get_not S _ fun k hk e => hS (hu k (List.mem_cons_of_mem _ hk) e ▸ hk), put_get_eq]
    · have hS : i ∈ S := by
        cases h with
        | head => exact absurd rfl hj
        | tail _ h => exact h
      rw [fillL_get_mem hi S _ hS fun k hk => hu k (List.mem_cons_of_mem _ hk), put_get_ne fun e => hj (hu j (List.mem_cons_self ..) e)]
/-- two frames that an operation can't tell apart -/
def Alike1 (ops : Array Oper) (o : Oper) (a b : Act) : Prop := ∀ t ∈ o.looksAt ops, a.tmps[t]? = b.tmps[t]?
theorem Alike1.exec {o : Oper} {a b : Act} (hs : ∀ cs b, o.op ≠ .select cs b) (h : Alike1 ops o a b) : execOp a.eval o = execOp b.eval o :=
  execOp_congr o hs fun x hx => by
    cases x with
    | tmp t =>
      have := h t (List.mem_append_left _ (List.mem_filterMap.2 ⟨.tmp t, by simpa using hx, rfl⟩))
      simp only [Act.eval, Array.getD_eq_getD_getElem?, this]
    | _ => rfl
theorem Alike1.wanted {o : Oper} {a b : Act} (h : Alike1 ops o a b) : Region.wanted o (yielded ops a.tmps) = Region.wanted o (yielded ops b.tmps) := by
  unfold Region.wanted
  cases hg : o.guard with
  | none => rfl
  | some gw =>
    obtain ⟨g, want⟩ := gw
    have hy : yielded ops a.tmps g = yielded ops b.tmps g := by
      unfold yielded
      cases ht : (ops[g]?).bind (·.dst) with
      | none => rfl
      | some t =>
        have := h t (by simp [Oper.looksAt, hg, ht])
        simp only [Option.bind_some, this]
    simp only [hy]

theorem nodup_len : ∀ (n : Nat) (S : List Nat), S.Nodup → (∀ i ∈ S, i < n) → S.length ≤ n
  | 0, S, _, h => by
    cases S with
    | nil => simp
    | cons x _ => exact absurd (h x (List.mem_cons_self ..)) (Nat.not_lt_zero _)
  | n + 1, S, hd, h => by
    by_cases hn : n ∈ S
    · have h1 := nodup_len n (S.erase n) (hd.erase n) fun i hi => by
        have := h i (List.mem_of_mem_erase hi)
        have hne : i ≠ n := fun e => by subst e; exact (hd.not_mem_erase) hi
        omega
      have := List.length_erase_of_mem hn
      omega
    · have := nodup_len n S hd fun i hi => by
        have := h i hi
        have hne : i ≠ n := fun e => hn (e ▸ hi)
        omega
      omega
theorem nodup_all {n : Nat} {S : List Nat} (hd : S.Nodup) (h : ∀ i ∈ S, i < n) (hl : S.length = n) (i : Nat) (hi : i < n) : i ∈ S := by
  by_cases hm : i ∈ S
  · exact hm
  · have := nodup_len n (i :: S) (List.nodup_cons.2 ⟨hm, hd⟩) fun j hj => by
      cases hj with
      | head => exact hi
      | tail _ hj => exact h j hj
    simp at this
    omega

theorem growAll_at {a : Act} {D : Nat → Value → World → Prop} {fr : List Nat} : ∀ (l : List Oper) (k : Nat) (pre : List (List Nat)), growAll P ops a w D fr k pre l → ∀ i o, l[i]? = some o → growOne P ops a w (pre.getD i []) D fr (k + i) o
  | [], _, _, _, _, _, h => by simp at h
  | x :: l, k, pre, h, 0, o, ho => by
    simp at ho
    subst ho
    have := h.1
    cases pre <;> simpa using this
  | x :: l, k, pre, h, i + 1, o, ho => by
    have := growAll_at l (k + 1) pre.tail h.2 i o (by simpa using ho)
    rw [show k + (i + 1) = k + 1 + i by omega]
    cases pre with
    | nil => simpa using this
    | cons p pre => simpa using this

/-- what holds when the operations S are done -/
structure GrowInv (ops : Array Oper) (md : Region.Mode) (n : Nat) (w : World) (D : Nat → Value → World → Prop) (fr : List Nat) (listed : Array Bool) (S : List Nat) (f : Nat → Value) (w' : World) : Prop where
  head : HeadInv md ops n listed
  nodup : S.Nodup
  mem : ∀ i, i ∈ S ↔ i < n ∧ listed.getD i false = true
  below : Below w.heap.size w w'
  done : ∀ i ∈ S, D i (f i) w'
  fresh : ∀ i ∈ S, i ∈ fr → ∃ g, f i = .pointer (some ⟨g, 0, none⟩) ∧ g < w'.heap.size
  apart : ∀ i ∈ S, ∀ j ∈ S, i ∈ fr → j ∈ fr → i ≠ j → f i ≠ f j

theorem thn' {a w w' : World} (h : Below a.heap.size a w) (k : Below w.heap.size w w') : Below a.heap.size a w' := h.trans ⟨k.os, k.tape, k.output, k.size, fun i hi => k.block i (Nat.lt_of_lt_of_le hi h.size)⟩

theorem wpAny_grow {n g : Nat} {pre : List (List Nat)} {fr : List Nat} {D : Nat → Value → World → Prop} {a : Act} {Q : Exit → Act → World → Prop}
    (hsel : ∀ (j : Nat) (o : Oper) cs b, ops[j]? = some o → o.op ≠ .select cs b)
    (hpre : ∀ i, i < n → ∀ j ∈ pre.getD i [], Region.waitsFor md ops i j = true ∧ j < n)
    (hdst : ∀ i, i < n → ∀ j, j < n → i ≠ j → ∀ t, Region.dstOf ops j = some t → Region.dstOf ops i ≠ some t ∧ (j ∈ pre.getD i [] ∨ ∀ o, ops[i]? = some o → t ∉ o.looksAt ops))
    (hlow : ∀ i, i < n → ∃ o, ops[i]? = some o ∧ ∀ e ∈ o.after, Region.binds md e = true → e.on < i)
    (htail : ∀ listed, HeadInv md ops n listed → ∀ i, i < n → listed.getD i true = false → ∀ t, n ≤ t → t ∉ Region.ready md ops listed)
    (hD : ∀ i v w1 w2, Below w1.heap.size w1 w2 → D i v w1 → D i v w2)
    (hop : ∀ i, i < n → ∀ o, ops[i]? = some o → growOne P ops a w (pre.getD i []) D fr i o)
    (hfin : ∀ listed f w', HeadInv md ops n listed → (∀ i, i < n → listed.getD i false = true) → Below w.heap.size w w' → (∀ i, i < n → D i (f i) w') → (∀ i, i < n → ∀ j, j < n → i ∈ fr → j ∈ fr → i ≠ j → f i ≠ f j) → wpAny P md ops Q g listed (fillL ops f (List.range n) a) w') :
    ∀ (m : Nat) (listed : Array Bool) (S : List Nat) (f : Nat → Value) (w' : World), m + S.length = n → GrowInv ops md n w D fr listed S f w' → wpAny P md ops Q (m + g) listed (fillL ops f S a) w' := by
  intro m
  induction m with
  | zero =>
    intro listed S f w' hm inv
    have hS : ∀ i, i < n → i ∈ S := nodup_all inv.nodup (fun i hi => ((inv.mem i).1 hi).1) (by omega)
    have hp : S.Perm (List.range n) := (List.perm_ext_iff_of_nodup inv.nodup List.nodup_range).2 fun i => ⟨fun h => List.mem_range.2 ((inv.mem i).1 h).1, fun h => hS i (List.mem_range.1 h)⟩
    rw [fillL_perm f hp fun x hx y hy hne t ht => (hdst y ((inv.mem y).1 hy).1 x ((inv.mem x).1 hx).1 (Ne.symm hne) t ht).1, Nat.zero_add]
    exact hfin listed f w' inv.head (fun i hi => ((inv.mem i).1 (hS i hi)).2) inv.below (fun i hi => inv.done i (hS i hi)) (fun i hi j hj => inv.apart i (hS i hi) j (hS j hj))
  | succ m ih =>
    intro listed S f w' hm inv
    have hsz := inv.head.size
    -- one that is not done yet
    have hex : ∃ i, i < n ∧ listed.getD i true = false := by
      by_cases h : ∃ i, i < n ∧ listed.getD i true = false
      · exact h
      · exfalso
        have : n ≤ S.length := by
          have := (List.nodup_range (n := n)).length_le_of_subset (l₂ := S) fun i hi => (inv.mem i).2 ⟨List.mem_range.1 hi, by
            have hi' := List.mem_range.1 hi
            obtain ⟨o, ho, _⟩ := hlow i hi'
            have hlt : i < listed.size := by rw [hsz]; exact (Array.getElem?_eq_some_iff.1 ho).1
            cases hb : listed.getD i false with
            | true => rfl
            | false => exact absurd ⟨i, hi', getD_in hlt hb⟩ h⟩
          simpa using this
        omega
    rw [show m + 1 + g = (m + g) + 1 by omega]
    refine ⟨fun h0 => ?_, fun i hi => ?_⟩
    · -- the least of them is ready
      exfalso
      have least : ∀ k, k < n → listed.getD k true = false → False := by
        intro k
        induction k using Nat.strongRecOn with
        | _ k ihk =>
          intro hk hun
          have hr : k ∈ Region.ready md ops listed := by
            obtain ⟨o, ho, hl⟩ := hlow k hk
            refine mem_ready.2 ⟨hun, o, ho, fun e he hb => ?_⟩
            have hlt := hl e he hb
            cases hc : listed.getD e.on false with
            | true => rfl
            | false =>
              have : e.on < listed.size := by rw [hsz]; have := (Array.getElem?_eq_some_iff.1 ho).1; omega
              exact absurd (getD_in this hc) (fun h => ihk e.on hlt (by omega) h)
          rw [h0] at hr
          cases hr
      obtain ⟨i, hi, hun⟩ := hex
      exact least i hi hun
    · obtain ⟨i0, hi0, hun0⟩ := hex
      have hin : i < n := by
        rcases Nat.lt_or_ge i n with h | h
        · exact h
        · exact absurd hi (htail listed inv.head i0 hi0 hun0 i h)
      obtain ⟨hun, o, ho, hall⟩ := mem_ready.1 hi
      have hiS : i ∉ S := fun h => by have := ((inv.mem i).1 h).2; rw [getD_both hun] at this; cases this
      have hpS : ∀ j ∈ pre.getD i [], j ∈ S := fun j hj => by
        obtain ⟨hw, hjn⟩ := hpre i hin j hj
        obtain ⟨o', ho', e, he, hb, hon⟩ := Region.waitsFor_spec hw
        have : o' = o := Option.some.inj (ho'.symm.trans ho)
        subst this
        exact (inv.mem j).2 ⟨hjn, hon ▸ hall e he hb⟩
      have hne : ∀ j ∈ S, j ≠ i := fun j hj e => hiS (e ▸ hj)
      have hal : Alike1 ops o (fillL ops f S a) (fillL ops f (pre.getD i []) a) := fun t ht => by
        by_cases hx : ∃ j ∈ S, Region.dstOf ops j = some t
        · obtain ⟨j, hj, hjt⟩ := hx
          have hjn := ((inv.mem j).1 hj).1
          have uniq : ∀ k, k < n → Region.dstOf ops k = some t → k = j := fun k hk hkt => by
            by_cases e : k = j
            · exact e
            · exact absurd hkt (hdst k hk j hjn e t hjt).1
          have hjp : j ∈ pre.getD i [] := by
            rcases (hdst i hin j hjn (Ne.symm (hne j hj)) t hjt).2 with h | h
            · exact h
            · exact absurd ht (h o ho)
          rw [fillL_get_mem hjt S a hj fun k hk => uniq k ((inv.mem k).1 hk).1, fillL_get_mem hjt _ a hjp fun k hk => uniq k (hpre i hin k hk).2]
        · rw [fillL_get_not S a fun j hj e => hx ⟨j, hj, e⟩, fillL_get_not _ a fun j hj e => hx ⟨j, hpS j hj, e⟩]
      have H := hop i hin o ho f w' inv.below fun j hj => inv.done j (hpS j hj)
      -- the step to the next state
      have next : ∀ v w'', Below w'.heap.size w' w'' → D i v w'' → (i ∈ fr → NewPtr v w' w'') → wpAny P md ops Q (m + g) (listed.setIfInBounds i true) ((fillL ops f S a).put o.dst v) w'' := fun v w'' hb hd hn => by
        have hput : (fillL ops f S a).put o.dst v = fillL ops (fun k => if k = i then v else f k) (S ++ [i]) a := by
          rw [fillL_append, fillL_congr (f := fun k => if k = i then v else f k) (g := f) S a fun j hj => by simp [hne j hj]]
          simp [fillL, Region.dstOf, ho]
        rw [hput]
        have hlt : i < listed.size := by rw [hsz]; exact (Array.getElem?_eq_some_iff.1 ho).1
        refine ih _ (S ++ [i]) _ w'' (by simp; omega) ⟨inv.head.set hi hin, ?_, fun j => ?_, thn' inv.below hb, fun j hj => ?_, fun j hj hjf => ?_, fun j hj k hk hjf hkf hjk => ?_⟩
        · rw [List.nodup_append]
          refine ⟨inv.nodup, by simp, fun x hx y hy => ?_⟩
          simp at hy
          subst hy
          exact hne x hx
        · simp only [List.mem_append, List.mem_singleton]
          by_cases e : j = i
          · subst e; simp [hin, hlt]
          · rw [getD_set_ne false (Ne.symm e), inv.mem j]; simp [e]
        · simp only [List.mem_append, List.mem_singleton] at hj
          rcases hj with hj | rfl
          · simp only [hne j hj, if_false]; exact hD j _ _ _ hb (inv.done j hj)
          · simpa using hd
        · simp only [List.mem_append, List.mem_singleton] at hj
          rcases hj with hj | rfl
          · obtain ⟨b, h1, h2⟩ := inv.fresh j hj hjf
            exact ⟨b, by simp only [hne j hj, if_false]; exact h1, Nat.lt_of_lt_of_le h2 hb.size⟩
          · obtain ⟨b, h1, _, h2⟩ := hn hjf
            exact ⟨b, by simpa using h1, h2⟩
        · simp only [List.mem_append, List.mem_singleton] at hj hk
          rcases hj with hj | rfl <;> rcases hk with hk | rfl
          · simp only [hne j hj, hne k hk, if_false]; exact inv.apart j hj k hk hjf hkf hjk
          · simp only [hne j hj, if_false, if_true]
            obtain ⟨b, h1, h2⟩ := inv.fresh j hj hjf
            obtain ⟨c, h3, h4, _⟩ := hn hkf
            rw [h1, h3]
            intro e
            injection e with e; injection e with e; injection e with e; omega
          · simp only [hne k hk, if_false, if_true]
            obtain ⟨b, h1, h2⟩ := inv.fresh k hk hkf
            obtain ⟨c, h3, h4, _⟩ := hn hjf
            rw [h1, h3]
            intro e
            injection e with e; injection e with e; injection e with e; omega
          · exact absurd rfl hjk
      unfold wpOp
      simp only [ho]
      rw [hal.wanted]
      split
      · rename_i hw
        rw [if_pos hw] at H
        refine .inl ?_
        unfold Oper.wp at *
        rw [hal.exec (fun cs b => hsel i o cs b ho)]
        generalize (execOp (fillL ops f (pre.getD i []) a).eval o).run P w' = r at *
        have put_inj : ∀ v u, (fillL ops f (pre.getD i []) a).put o.dst v = (fillL ops f (pre.getD i []) a).put o.dst u → (fillL ops f S a).put o.dst v = (fillL ops f S a).put o.dst u := fun v u h => by
          cases hd : o.dst with
          | none => rfl
          | some d =>
            rw [hd] at h
            have e1 : ((fillL ops f (pre.getD i []) a).put (some d) v).tmps[d]? = ((fillL ops f (pre.getD i []) a).put (some d) u).tmps[d]? := by rw [h]
            rw [put_get_eq, put_get_eq] at e1
            have hd' : Region.dstOf ops i = some d := by simp [Region.dstOf, ho, hd]
            have u1 : ∀ j, j < n → j ≠ i → Region.dstOf ops j ≠ some d := fun j hj hji => by
              intro e
              exact (hdst i hin j hj (Ne.symm hji) d e).1 hd'
            have e2 : (fillL ops f (pre.getD i []) a).tmps[d]? = a.tmps[d]? := fillL_get_not _ a fun j hj => u1 j (hpre i hin j hj).2 (hne j (hpS j hj))
            have e3 : (fillL ops f S a).tmps[d]? = a.tmps[d]? := fillL_get_not _ a fun j hj => u1 j ((inv.mem j).1 hj).1 (hne j hj)
            rw [e2] at e1
            rcases Nat.lt_or_ge d a.tmps.size with hlt | hge
            · have : a.tmps[d]? = some a.tmps[d] := by simp [hlt]
              rw [this] at e1
              simp at e1
              rw [e1]
            · have h4 : (fillL ops f S a).tmps.size ≤ d := by
                rw [Array.getElem?_eq_none hge] at e3
                exact Array.getElem?_eq_none_iff.1 e3
              simp only [Act.put, Array.setIfInBounds]
              rw [dif_neg (by omega), dif_neg (by omega)]
        cases r with
        | ok x w1 =>
          cases x <;> simp only [Oper.upon] at H ⊢
          case value u =>
            obtain ⟨v, e, hb, hd, hn⟩ := H
            rw [put_inj u v e]; exact next v _ hb hd hn
          case skip =>
            obtain ⟨v, e, hb, hd, hn⟩ := H
            rw [put_inj _ v e]; exact next v _ hb hd hn
          case enter fn args =>
            refine H.mono fun e w'' he => ?_
            cases e with
            | returned u => obtain ⟨v, e, hb, hd, hn⟩ := he; simp only; rw [put_inj u v e]; exact next v _ hb hd hn
            | panicked c => exact he.elim
            | outgrown => obtain ⟨_, _, h⟩ := he; exact h.elim
          case defer d =>
            obtain ⟨v, e, _⟩ := H
            have e := congrArg (fun x => x.defers.length) e
            have hl : ∀ (x : Act) (d : Option Tmp) (v : Value), (x.put d v).defers = x.defers := fun x d v => by cases d <;> rfl
            simp only [hl, List.length_cons] at e
            omega
          case row rw args =>
            refine H.mono fun u w'' ⟨v, e, hb, hd, hn⟩ => ?_
            rw [put_inj u v e]; exact next v _ hb hd hn
        | halt x w1 => cases x <;> simp only [Oper.upon] at H ⊢ <;> exact H.elim
      · rename_i hw
        rw [if_neg hw] at H
        exact next undef w' (Below.refl _ _) H.1 fun h => absurd h H.2
/-- one operation of a region that draws its order, walked alone -/
theorem growOne_of {a : Act} {pre : List Nat} {D : Nat → Value → World → Prop} {fr : List Nat} {k : Nat} {o : Oper} (hg : o.guard = none)
    (h : ∀ f w', Below w.heap.size w w' → (∀ j ∈ pre, D j (f j) w') →
      wpList P ops (fun ex a' w'' => ex = .normal ∧ ∃ v, a' = (fillL ops f pre a).put o.dst v ∧ growPost D fr k w' w'' v) [o] (fillL ops f pre a) w') :
    growOne P ops a w pre D fr k o := fun f w' hb hp => by
  have hw : ∀ y, Region.wanted o y = true := fun y => by simp [Region.wanted, hg]
  have H := h f w' hb hp
  simp only [wpList, hw, if_true] at H
  rw [if_pos (hw _)]
  rcases H with H | ⟨_, H⟩
  · unfold Oper.wp at *
    generalize (execOp (fillL ops f pre a).eval o).run P w' = r at *
    cases r with
    | ok x w1 =>
      cases x <;> simp only [Oper.upon] at H ⊢
      case enter fn args =>
        refine H.mono fun e w'' he => ?_
        cases e with
        | returned u => exact he.2
        | panicked c => exact absurd he.1 (by simp)
        | outgrown => obtain ⟨_, _, h⟩ := he; exact absurd h.1 (by simp)
      case row rw args => exact H.mono fun u w'' h => h.2
      all_goals first | exact H.2 | exact absurd H.1 (by simp)
    | halt x w1 => cases x <;> simp only [Oper.upon] at H ⊢ <;> first | exact H.elim | exact absurd H.1 (by simp)
  · obtain ⟨_, _, h⟩ := H; exact absurd h.1 (by simp)

theorem any_region_grow {Q : Exit → Act → World → Prop} {a : Act} {W : World} {l : List Oper} (n : Nat) (pre : List (List Nat)) (fr : List Nat) (D : Nat → Value → World → Prop)
    (hB : Region.growB .any l.toArray n pre = true)
    (hD : ∀ i v w1 w2, Below w1.heap.size w1 w2 → D i v w1 → D i v w2)
    (hop : growAll P l.toArray a W D fr 0 pre (l.take n))
    (hfin : ∀ f w', Below W.heap.size W w' → (∀ i, i < n → D i (f i) w') → (∀ i, i < n → ∀ j, j < n → i ∈ fr → j ∈ fr → i ≠ j → f i ≠ f j) → wpList P l.toArray Q (l.drop n) (fillL l.toArray f (List.range n) a) w') :
    wpAny P .any l.toArray Q l.toArray.size (Array.replicate l.toArray.size false) a W.drew := by
  simp only [Region.growB, Bool.and_eq_true] at hB
  obtain ⟨⟨⟨⟨⟨hs, hp⟩, hd⟩, hl⟩, ht⟩, hq⟩ := hB
  have hsel := Region.noSelect_spec hs
  have hn : n ≤ l.toArray.size := by
    simp only [Bool.or_eq_true, decide_eq_true_eq, Bool.and_eq_true] at ht
    omega
  have hn' : n ≤ l.length := by simpa using hn
  have H := wpAny_grow (P := P) (ops := l.toArray) (md := .any) (w := W) (n := n) (g := l.toArray.size - n) (pre := pre) (fr := fr) (D := D) (a := a) (Q := Q) hsel ?_ ?_ ?_ ?_ hD ?_ ?_ n (Array.replicate l.toArray.size false) [] (fun _ => undef) W.drew (by simp) ?_
  · rw [show n + (l.toArray.size - n) = l.toArray.size by omega] at H
    exact H
  · intro i hi j hj
    have h1 := List.all_eq_true.1 (List.all_eq_true.1 hp i (List.mem_range.2 hi)) j hj
    simpa using h1
  · intro i hi j hj hij t hjt
    have h1 := List.all_eq_true.1 (List.all_eq_true.1 hd i (List.mem_range.2 hi)) j (List.mem_range.2 hj)
    rw [hjt] at h1
    simp only [Bool.or_eq_true, beq_iff_eq, Bool.and_eq_true, bne_iff_ne, ne_eq, Bool.not_eq_true'] at h1
    rcases h1 with h1 | ⟨h1, h2⟩
    · exact absurd h1 hij
    · refine ⟨h1, h2.imp (fun h => by simpa using h) fun h o ho => ?_⟩
      rw [ho] at h
      simpa using h
  · intro i hi
    have h1 := List.all_eq_true.1 hl i (List.mem_range.2 hi)
    cases ho : l.toArray[i]? with
    | none => rw [ho] at h1; cases h1
    | some o =>
      rw [ho] at h1
      refine ⟨o, rfl, fun e he hb => ?_⟩
      have h2 := Array.all_eq_true_iff_forall_mem.1 h1 e he
      simpa [hb] using h2
  · intro listed inv i hi hun t htn hr
    simp only [Bool.or_eq_true, decide_eq_true_eq, Bool.and_eq_true] at ht
    rcases ht with ht | ⟨⟨ht, h1⟩, h2⟩
    · obtain ⟨_, o, ho, _⟩ := mem_ready.1 hr
      have := (Array.getElem?_eq_some_iff.1 ho).1
      omega
    · exact tail_waits h1 h2 ht inv _ i rfl hi hun t htn hr
  · intro i hi o ho
    have := growAll_at (l.take n) 0 pre hop i o (by rw [List.getElem?_take_of_lt hi]; simpa using ho)
    simpa using this
  · intro listed f w' inv hall hb hd hf
    have hlist : listed = Array.replicate n true ++ Array.replicate (l.toArray.size - n) false := by
      have hsz := inv.size
      refine Array.ext (by simp; simp at hsz; omega) fun i h1 h2 => ?_
      rw [Array.getElem_append]
      split
      · rename_i h
        have := hall i (by simpa using h)
        simpa [h1] using this
      · rename_i h
        have := inv.tail i (by simpa using h) (by omega)
        simpa [h1] using this
    have hdl : (l.drop n).length = l.toArray.size - n := by simp
    have := wpAny_of_seq (P := P) (ops := l.toArray) (md := .any) (Q' := Q) (l.drop n) n listed _ w' (fun j => by simp [List.getElem?_drop]) (by rw [hdl, hlist]; exact hq) (hfin f w' hb hd hf)
    rwa [hdl] at this
  · exact ⟨⟨by simp, fun j oj _ hl => (by rw [getD_replicate_false] at hl; cases hl), fun t _ ht => getD_in (by simpa using ht) (getD_replicate_false _ _)⟩, by simp, fun i => ⟨fun h => (by simp at h), fun h => (by have h := h.2; rw [getD_replicate_false] at h; cases h)⟩, ⟨rfl, rfl, rfl, Nat.le_refl _, fun _ _ => rfl⟩, fun i hi => by simp at hi, fun i hi => by simp at hi, fun i hi => by simp at hi⟩
theorem wp_region_grow {id : Nat} {Q : Exit → Act → World → Prop} {a : Act} {W : World} {l : List Oper} (n : Nat) (pre : List (List Nat)) (fr : List Nat) (D : Nat → Value → World → Prop)
    (hm : P.follows .mixedOrders = true) (hB : Region.growB .any l.toArray n pre = true)
    (hD : ∀ i v w1 w2, Below w1.heap.size w1 w2 → D i v w1 → D i v w2)
    (hop : growAll P l.toArray a W D fr 0 pre (l.take n))
    (hfin : ∀ f w', Below W.heap.size W w' → (∀ i, i < n → D i (f i) w') → (∀ i, i < n → ∀ j, j < n → i ∈ fr → j ∈ fr → i ≠ j → f i ≠ f j) → wpList P l.toArray Q (l.drop n) (fillL l.toArray f (List.range n) a) w') :
    (Code.region id l.toArray true).wp P Q a W := wp_region_any hm (any_region_grow n pre fr D hB hD hop hfin)

/-! ### the same in a round of a range over a function -/
end
end Go.Proofs.YtdiehgfldndgbaaGreatDoor
namespace Go.Proofs.YtdiehgfldndgbaaGreatDoor
open Go.RowKit

/-- 'sinkB', 'growB' where operation p may come behind operation n: it yields in whatever world -/
def Region.sinkPB (md : Region.Mode) (ops : Array Oper) (n p : Nat) : Bool :=
  (List.range n).all fun i => i == p || (List.range (n + 1)).any fun j => decide (i < j) && j != p && Region.waitsFor md ops j i
def Region.growPB (md : Region.Mode) (ops : Array Oper) (n p : Nat) (pre : List (List Nat)) : Bool :=
  Region.noSelect ops &&
  ((List.range n).all (fun i => (pre.getD i []).all fun j => Region.waitsFor md ops i j && decide (j < n))) &&
  ((List.range n).all (fun i => (List.range n).all fun j => i == j ||
    (match Region.dstOf ops j with
     | none => true
     | some t => (Region.dstOf ops i != some t) && ((pre.getD i []).contains j || !((ops[i]?).any fun o => (o.looksAt ops).contains t))))) &&
  ((List.range n).all (fun i => match ops[i]? with | some o => o.after.all (fun e => !Region.binds md e || decide (e.on < i)) | none => false)) &&
  decide (p < n) && decide (n < ops.size) && Region.sinkPB md ops n p && Region.chainB md ops n &&
  Region.free md ops ((Array.replicate n true ++ Array.replicate (ops.size - n) false).setIfInBounds p false) p &&
  (Region.ready md ops ((Array.replicate n true ++ Array.replicate (ops.size - n) false).setIfInBounds p false)).contains p &&
  Region.seqB md ops (ops.size - n) n (Array.replicate n true ++ Array.replicate (ops.size - n) false)

section
variable {P : Program} {ops : Array Oper} {md : Region.Mode} {w : World}

theorem tail_waitsP {n p : Nat} {listed : Array Bool} (hs : Region.sinkPB md ops n p = true) (hc : Region.chainB md ops n = true) (hn : n < ops.size) (inv : HeadInv md ops n listed) :
    ∀ (d i : Nat), n - i = d → i < n → i ≠ p → listed.getD i true = false → ∀ t, n ≤ t → t ∉ Region.ready md ops listed := by
  intro d
  induction d using Nat.strongRecOn with
  | _ d ih =>
    intro i hd hi hip hun t ht hr
    obtain ⟨_, ot, hot, hall⟩ := mem_ready.1 hr
    have htlt : t < ops.size := (Array.getElem?_eq_some_iff.1 hot).1
    by_cases htn : t = n
    · subst htn
      have h1 := List.all_eq_true.1 hs i (List.mem_range.2 hi)
      simp only [Bool.or_eq_true, beq_iff_eq] at h1
      rcases h1 with h1 | h1
      · exact hip h1
      obtain ⟨j, hj, hj2⟩ := List.any_eq_true.1 h1
      simp only [Bool.and_eq_true, decide_eq_true_eq, bne_iff_ne, ne_eq] at hj2
      obtain ⟨oj, hoj, e, he, hb, hon⟩ := Region.waitsFor_spec hj2.2
      have hjle : j ≤ t := by have := List.mem_range.1 hj; omega
      by_cases hjt : j = t
      · subst hjt
        have : oj = ot := Option.some.inj (hoj.symm.trans hot)
        subst this
        have h2 := hall e he hb
        rw [hon, getD_both hun] at h2
        cases h2
      · cases hl : listed.getD j false with
        | true =>
          have h2 := inv.closed j oj hoj hl e he hb
          rw [hon, getD_both hun] at h2
          cases h2
        | false =>
          have hjs : j < listed.size := by rw [inv.size]; omega
          have := hj2.1.1
          exact ih (t - j) (by omega) j rfl (by omega) hj2.1.2 (getD_in hjs hl) t (Nat.le_refl _) hr
    · have h1 := List.all_eq_true.1 hc t (List.mem_range.2 htlt)
      simp only [Bool.or_eq_true, decide_eq_true_eq] at h1
      rcases h1 with h1 | h1
      · omega
      · obtain ⟨o', ho', e, he, hb, hon⟩ := Region.waitsFor_spec h1
        have : o' = ot := Option.some.inj (ho'.symm.trans hot)
        subst this
        have h2 := hall e he hb
        rw [hon, getD_both (inv.tail (t - 1) (by omega) (by omega))] at h2
        cases h2
theorem wpAny_growP {n g p : Nat} {op : Oper} {pre : List (List Nat)} {fr : List Nat} {D : Nat → Value → World → Prop} {a : Act} {Q : Exit → Act → World → Prop}
    (hsel : ∀ (j : Nat) (o : Oper) cs b, ops[j]? = some o → o.op ≠ .select cs b)
    (hpre : ∀ i, i < n → ∀ j ∈ pre.getD i [], Region.waitsFor md ops i j = true ∧ j < n)
    (hdst : ∀ i, i < n → ∀ j, j < n → i ≠ j → ∀ t, Region.dstOf ops j = some t → Region.dstOf ops i ≠ some t ∧ (j ∈ pre.getD i [] ∨ ∀ o, ops[i]? = some o → t ∉ o.looksAt ops))
    (hlow : ∀ i, i < n → ∃ o, ops[i]? = some o ∧ ∀ e ∈ o.after, Region.binds md e = true → e.on < i)
    (htail : ∀ listed, HeadInv md ops n listed → ∀ i, i < n → i ≠ p → listed.getD i true = false → ∀ t, n ≤ t → t ∉ Region.ready md ops listed)
    (hpn : p < n) (hpo : ops[p]? = some op) (hpf : p ∉ fr)
    (hfree : ∀ listed, HeadInv md ops n listed → (∀ i, i < n → i ≠ p → listed.getD i false = true) → listed.getD p true = false → Region.free md ops listed p = true ∧ (Region.ready md ops listed).contains p = true)
    (hyield : ∀ f w', Below w.heap.size w w' → (∀ i, i < n → i ≠ p → D i (f i) w') → ∃ v, Yields P ops op v (fillL ops f ((List.range n).filter fun i => i != p) a) ∧ D p v w')
    (hQ : ∀ v c a w, Q (.panic c) (a.put op.dst v) w → Q (.panic c) a w)
    (hD : ∀ i v w1 w2, Below w1.heap.size w1 w2 → D i v w1 → D i v w2)
    (hop : ∀ i, i < n → ∀ o, ops[i]? = some o → growOne P ops a w (pre.getD i []) D fr i o)
    (hfin : ∀ listed f w', HeadInv md ops n listed → (∀ i, i < n → listed.getD i false = true) → Below w.heap.size w w' → (∀ i, i < n → D i (f i) w') → (∀ i, i < n → ∀ j, j < n → i ∈ fr → j ∈ fr → i ≠ j → f i ≠ f j) → wpAny P md ops Q g listed (fillL ops f (List.range n) a) w') :
    ∀ (m : Nat) (listed : Array Bool) (S : List Nat) (f : Nat → Value) (w' : World), m + S.length = n → GrowInv ops md n w D fr listed S f w' → wpAny P md ops Q (m + g) listed (fillL ops f S a) w' := by
  intro m
  induction m with
  | zero =>
    intro listed S f w' hm inv
    have hS : ∀ i, i < n → i ∈ S := nodup_all inv.nodup (fun i hi => ((inv.mem i).1 hi).1) (by omega)
    have hp : S.Perm (List.range n) := (List.perm_ext_iff_of_nodup inv.nodup List.nodup_range).2 fun i => ⟨fun h => List.mem_range.2 ((inv.mem i).1 h).1, fun h => hS i (List.mem_range.1 h)⟩
    rw [fillL_perm f hp fun x hx y hy hne t ht => (hdst y ((inv.mem y).1 hy).1 x ((inv.mem x).1 hx).1 (Ne.symm hne) t ht).1, Nat.zero_add]
    exact hfin listed f w' inv.head (fun i hi => ((inv.mem i).1 (hS i hi)).2) inv.below (fun i hi => inv.done i (hS i hi)) (fun i hi j hj => inv.apart i (hS i hi) j (hS j hj))
  | succ m ih =>
    intro listed S f w' hm inv
    have hsz := inv.head.size
    -- one that is not done yet
    have hex : ∃ i, i < n ∧ listed.getD i true = false := by
      by_cases h : ∃ i, i < n ∧ listed.getD i true = false
      · exact h
      · exfalso
        have : n ≤ S.length := by
          have := (List.nodup_range (n := n)).length_le_of_subset (l₂ := S) fun i hi => (inv.mem i).2 ⟨List.mem_range.1 hi, by
            have hi' := List.mem_range.1 hi
            obtain ⟨o, ho, _⟩ := hlow i hi'
            have hlt : i < listed.size := by rw [hsz]; exact (Array.getElem?_eq_some_iff.1 ho).1
            cases hb : listed.getD i false with
            | true => rfl
            | false => exact absurd ⟨i, hi', getD_in hlt hb⟩ h⟩
          simpa using this
        omega
    -- the step to the next state
    have next : ∀ i, i < n → i ∉ S → i ∈ Region.ready md ops listed → ∀ o, ops[i]? = some o → ∀ v w'', Below w'.heap.size w' w'' → D i v w'' → (i ∈ fr → NewPtr v w' w'') → wpAny P md ops Q (m + g) (listed.setIfInBounds i true) ((fillL ops f S a).put o.dst v) w'' := fun i hin hiS hi o ho v w'' hb hd hn => by
      have hne : ∀ j ∈ S, j ≠ i := fun j hj e => hiS (e ▸ hj)
      have hput : (fillL ops f S a).put o.dst v = fillL ops (fun k => if k = i then v else f k) (S ++ [i]) a := by
        rw [fillL_append, fillL_congr (f := fun k => if k = i then v else f k) (g := f) S a fun j hj => by simp [hne j hj]]
        simp [fillL, Region.dstOf, ho]
      rw [hput]
      have hlt : i < listed.size := by rw [hsz]; exact (Array.getElem?_eq_some_iff.1 ho).1
      refine ih _ (S ++ [i]) _ w'' (by simp; omega) ⟨inv.head.set hi hin, ?_, fun j => ?_, thn' inv.below hb, fun j hj => ?_, fun j hj hjf => ?_, fun j hj k hk hjf hkf hjk => ?_⟩
      · rw [List.nodup_append]
        refine ⟨inv.nodup, by simp, fun x hx y hy => ?_⟩
        simp at hy
        subst hy
        exact hne x hx
      · simp only [List.mem_append, List.mem_singleton]
        by_cases e : j = i
        · subst e; simp [hin, hlt]
        · rw [getD_set_ne false (Ne.symm e), inv.mem j]; simp [e]
      · simp only [List.mem_append, List.mem_singleton] at hj
        rcases hj with hj | rfl
        · simp only [hne j hj, if_false]; exact hD j _ _ _ hb (inv.done j hj)
        · simpa using hd
      · simp only [List.mem_append, List.mem_singleton] at hj
        rcases hj with hj | rfl
        · obtain ⟨b, h1, h2⟩ := inv.fresh j hj hjf
          exact ⟨b, by simp only [hne j hj, if_false]; exact h1, Nat.lt_of_lt_of_le h2 hb.size⟩
        · obtain ⟨b, h1, _, h2⟩ := hn hjf
          exact ⟨b, by simpa using h1, h2⟩
      · simp only [List.mem_append, List.mem_singleton] at hj hk
        rcases hj with hj | rfl <;> rcases hk with hk | rfl
        · simp only [hne j hj, hne k hk, if_false]; exact inv.apart j hj k hk hjf hkf hjk
        · simp only [hne j hj, if_false, if_true]
          obtain ⟨b, h1, h2⟩ := inv.fresh j hj hjf
          obtain ⟨c, h3, h4, _⟩ := hn hkf
          rw [h1, h3]
          intro e
          injection e with e; injection e with e; injection e with e; omega
        · simp only [hne k hk, if_false, if_true]
          obtain ⟨b, h1, h2⟩ := inv.fresh k hk hkf
          obtain ⟨c, h3, h4, _⟩ := hn hjf
          rw [h1, h3]
          intro e
          injection e with e; injection e with e; injection e with e; omega
        · exact absurd rfl hjk
    by_cases hpall : ∀ i, i < n → i ≠ p → listed.getD i false = true
    · obtain ⟨i1, hi1, hun1⟩ := hex
      have hip : i1 = p := by
        by_cases e : i1 = p
        · exact e
        · have h1 := hpall i1 hi1 e
          rw [getD_both hun1] at h1
          cases h1
      subst hip
      obtain ⟨hf1, hr1⟩ := hfree listed inv.head hpall hun1
      have hr2 : i1 ∈ Region.ready md ops listed := by simpa using hr1
      have hiS : i1 ∉ S := fun h => by have := ((inv.mem i1).1 h).2; rw [getD_both hun1] at this; cases this
      have hSm : ∀ i, i < n → i ≠ i1 → i ∈ S := fun i h1 h2 => (inv.mem i).2 ⟨h1, hpall i h1 h2⟩
      have hperm : S.Perm ((List.range n).filter fun i => i != i1) := (List.perm_ext_iff_of_nodup inv.nodup (List.nodup_range.filter _)).2 fun i => by
        simp only [List.mem_filter, List.mem_range, bne_iff_ne, ne_eq]
        exact ⟨fun h => ⟨((inv.mem i).1 h).1, fun e => hiS (e ▸ h)⟩, fun h => hSm i h.1 h.2⟩
      obtain ⟨v, hy, hdv⟩ := hyield f w' inv.below fun i h1 h2 => inv.done i (hSm i h1 h2)
      have hfe : fillL ops f S a = fillL ops f ((List.range n).filter fun i => i != i1) a := fillL_perm f hperm (fun x hx y hy hne t ht => (hdst y ((inv.mem y).1 hy).1 x ((inv.mem x).1 hx).1 (Ne.symm hne) t ht).1) a
      rw [show m + 1 + g = (m + g) + 1 by omega]
      refine wpAny_first hpo hsel (hQ v) (m + g) listed _ w' (Region.free_spec hpo hf1) hr2 (by rw [hfe]; exact hy) ?_
      exact next i1 hpn hiS hr2 op hpo v w' (Below.refl _ _) hdv (fun h => absurd h hpf)
    have hex : ∃ i, i < n ∧ i ≠ p ∧ listed.getD i true = false := by
      by_cases h : ∃ i, i < n ∧ i ≠ p ∧ listed.getD i true = false
      · exact h
      · exfalso
        refine hpall fun i hi hip => ?_
        obtain ⟨o, ho, _⟩ := hlow i hi
        have hlt : i < listed.size := by rw [hsz]; exact (Array.getElem?_eq_some_iff.1 ho).1
        cases hb : listed.getD i false with
        | true => rfl
        | false => exact absurd ⟨i, hi, hip, getD_in hlt hb⟩ h
    rw [show m + 1 + g = (m + g) + 1 by omega]
    refine ⟨fun h0 => ?_, fun i hi => ?_⟩
    · -- the least of them is ready
      exfalso
      have least : ∀ k, k < n → listed.getD k true = false → False := by
        intro k
        induction k using Nat.strongRecOn with
        | _ k ihk =>
          intro hk hun
          have hr : k ∈ Region.ready md ops listed := by
            obtain ⟨o, ho, hl⟩ := hlow k hk
            refine mem_ready.2 ⟨hun, o, ho, fun e he hb => ?_⟩
            have hlt := hl e he hb
            cases hc : listed.getD e.on false with
            | true => rfl
            | false =>
              have : e.on < listed.size := by rw [hsz]; have := (Array.getElem?_eq_some_iff.1 ho).1; omega
              exact absurd (getD_in this hc) (fun h => ihk e.on hlt (by omega) h)
          rw [h0] at hr
          cases hr
      obtain ⟨i, hi, _, hun⟩ := hex
      exact least i hi hun
    · obtain ⟨i0, hi0, hip0, hun0⟩ := hex
      have hin : i < n := by
        rcases Nat.lt_or_ge i n with h | h
        · exact h
        · exact absurd hi (htail listed inv.head i0 hi0 hip0 hun0 i h)
      obtain ⟨hun, o, ho, hall⟩ := mem_ready.1 hi
      have hiS : i ∉ S := fun h => by have := ((inv.mem i).1 h).2; rw [getD_both hun] at this; cases this
      have hpS : ∀ j ∈ pre.getD i [], j ∈ S := fun j hj => by
        obtain ⟨hw, hjn⟩ := hpre i hin j hj
        obtain ⟨o', ho', e, he, hb, hon⟩ := Region.waitsFor_spec hw
        have : o' = o := Option.some.inj (ho'.symm.trans ho)
        subst this
        exact (inv.mem j).2 ⟨hjn, hon ▸ hall e he hb⟩
      have hne : ∀ j ∈ S, j ≠ i := fun j hj e => hiS (e ▸ hj)
      have hal : Alike1 ops o (fillL ops f S a) (fillL ops f (pre.getD i []) a) := fun t ht => by
        by_cases hx : ∃ j ∈ S, Region.dstOf ops j = some t
        · obtain ⟨j, hj, hjt⟩ := hx
          have hjn := ((inv.mem j).1 hj).1
          have uniq : ∀ k, k < n → Region.dstOf ops k = some t → k = j := fun k hk hkt => by
            by_cases e : k = j
            · exact e
            · exact absurd hkt (hdst k hk j hjn e t hjt).1
          have hjp : j ∈ pre.getD i [] := by
            rcases (hdst i hin j hjn (Ne.symm (hne j hj)) t hjt).2 with h | h
            · exact h
            · exact absurd ht (h o ho)
          rw [fillL_get_mem hjt S a hj fun k hk => uniq k ((inv.mem k).1 hk).1, fillL_get_mem hjt _ a hjp fun k hk => uniq k (hpre i hin k hk).2]
        · rw [fillL_get_not S a fun j hj e => hx ⟨j, hj, e⟩, fillL_get_not _ a fun j hj e => hx ⟨j, hpS j hj, e⟩]
      have H := hop i hin o ho f w' inv.below fun j hj => inv.done j (hpS j hj)
      unfold wpOp
      simp only [ho]
      rw [hal.wanted]
      split
      · rename_i hw
        rw [if_pos hw] at H
        refine .inl ?_
        unfold Oper.wp at *
        rw [hal.exec (fun cs b => hsel i o cs b ho)]
        generalize (execOp (fillL ops f (pre.getD i []) a).eval o).run P w' = r at *
        have put_inj : ∀ v u, (fillL ops f (pre.getD i []) a).put o.dst v = (fillL ops f (pre.getD i []) a).put o.dst u → (fillL ops f S a).put o.dst v = (fillL ops f S a).put o.dst u := fun v u h => by
          cases hd : o.dst with
          | none => rfl
          | some d =>
            rw [hd] at h
            have e1 : ((fillL ops f (pre.getD i []) a).put (some d) v).tmps[d]? = ((fillL ops f (pre.getD i []) a).put (some d) u).tmps[d]? := by rw [h]
            rw [put_get_eq, put_get_eq] at e1
            have hd' : Region.dstOf ops i = some d := by simp [Region.dstOf, ho, hd]
            have u1 : ∀ j, j < n → j ≠ i → Region.dstOf ops j ≠ some d := fun j hj hji => by
              intro e
              exact (hdst i hin j hj (Ne.symm hji) d e).1 hd'
            have e2 : (fillL ops f (pre.getD i []) a).tmps[d]? = a.tmps[d]? := fillL_get_not _ a fun j hj => u1 j (hpre i hin j hj).2 (hne j (hpS j hj))
            have e3 : (fillL ops f S a).tmps[d]? = a.tmps[d]? := fillL_get_not _ a fun j hj => u1 j ((inv.mem j).1 hj).1 (hne j hj)
            rw [e2] at e1
            rcases Nat.lt_or_ge d a.tmps.size with hlt | hge
            · have : a.tmps[d]? = some a.tmps[d] := by simp [hlt]
              rw [this] at e1
              simp at e1
              rw [e1]
            · have h4 : (fillL ops f S a).tmps.size ≤ d := by
                rw [Array.getElem?_eq_none hge] at e3
                exact Array.getElem?_eq_none_iff.1 e3
              simp only [Act.put, Array.setIfInBounds]
              rw [dif_neg (by omega), dif_neg (by omega)]
        cases r with
        | ok x w1 =>
          cases x <;> simp only [Oper.upon] at H ⊢
          case value u =>
            obtain ⟨v, e, hb, hd, hn⟩ := H
            rw [put_inj u v e]; exact next i hin hiS hi o ho v _ hb hd hn
          case skip =>
            obtain ⟨v, e, hb, hd, hn⟩ := H
            rw [put_inj _ v e]; exact next i hin hiS hi o ho v _ hb hd hn
          case enter fn args =>
            refine H.mono fun e w'' he => ?_
            cases e with
            | returned u => obtain ⟨v, e, hb, hd, hn⟩ := he; simp only; rw [put_inj u v e]; exact next i hin hiS hi o ho v _ hb hd hn
            | panicked c => exact he.elim
            | outgrown => obtain ⟨_, _, h⟩ := he; exact h.elim
          case defer d =>
            obtain ⟨v, e, _⟩ := H
            have e := congrArg (fun x => x.defers.length) e
            have hl : ∀ (x : Act) (d : Option Tmp) (v : Value), (x.put d v).defers = x.defers := fun x d v => by cases d <;> rfl
            simp only [hl, List.length_cons] at e
            omega
          case row rw args =>
            refine H.mono fun u w'' ⟨v, e, hb, hd, hn⟩ => ?_
            rw [put_inj u v e]; exact next i hin hiS hi o ho v _ hb hd hn
        | halt x w1 => cases x <;> simp only [Oper.upon] at H ⊢ <;> exact H.elim
      · rename_i hw
        rw [if_neg hw] at H
        exact next i hin hiS hi o ho undef w' (Below.refl _ _) H.1 fun h => absurd h H.2
theorem any_region_growP {Q : Exit → Act → World → Prop} {a : Act} {W : World} {l : List Oper} (n p : Nat) (op : Oper) (pre : List (List Nat)) (fr : List Nat) (D : Nat → Value → World → Prop)
    (hB : Region.growPB .any l.toArray n p pre = true) (hpo : l.toArray[p]? = some op) (hpf : p ∉ fr)
    (hyield : ∀ f w', Below W.heap.size W w' → (∀ i, i < n → i ≠ p → D i (f i) w') → ∃ v, Yields P l.toArray op v (fillL l.toArray f ((List.range n).filter fun i => i != p) a) ∧ D p v w')
    (hQ : ∀ v c a w, Q (.panic c) (a.put op.dst v) w → Q (.panic c) a w)
    (hD : ∀ i v w1 w2, Below w1.heap.size w1 w2 → D i v w1 → D i v w2)
    (hop : growAll P l.toArray a W D fr 0 pre (l.take n))
    (hfin : ∀ f w', Below W.heap.size W w' → (∀ i, i < n → D i (f i) w') → (∀ i, i < n → ∀ j, j < n → i ∈ fr → j ∈ fr → i ≠ j → f i ≠ f j) → wpList P l.toArray Q (l.drop n) (fillL l.toArray f (List.range n) a) w') :
    wpAny P .any l.toArray Q l.toArray.size (Array.replicate l.toArray.size false) a W.drew := by
  simp only [Region.growPB, Bool.and_eq_true, decide_eq_true_eq] at hB
  obtain ⟨⟨⟨⟨⟨⟨⟨⟨⟨⟨hs, hp⟩, hd⟩, hl⟩, hpn⟩, ht⟩, h1⟩, h2⟩, hfr⟩, hrd⟩, hq⟩ := hB
  have hsel := Region.noSelect_spec hs
  have hn : n ≤ l.toArray.size := by omega
  have hn' : n ≤ l.length := by simpa using hn
  have H := wpAny_growP (P := P) (p := p) (op := op) (ops := l.toArray) (md := .any) (w := W) (n := n) (g := l.toArray.size - n) (pre := pre) (fr := fr) (D := D) (a := a) (Q := Q) hsel ?_ ?_ ?_ ?_ hpn hpo hpf ?_ hyield hQ hD ?_ ?_ n (Array.replicate l.toArray.size false) [] (fun _ => undef) W.drew (by simp) ?_
  · rw [show n + (l.toArray.size - n) = l.toArray.size by omega] at H
    exact H
  · intro i hi j hj
    have h1 := List.all_eq_true.1 (List.all_eq_true.1 hp i (List.mem_range.2 hi)) j hj
    simpa using h1
  · intro i hi j hj hij t hjt
    have h1 := List.all_eq_true.1 (List.all_eq_true.1 hd i (List.mem_range.2 hi)) j (List.mem_range.2 hj)
    rw [hjt] at h1
    simp only [Bool.or_eq_true, beq_iff_eq, Bool.and_eq_true, bne_iff_ne, ne_eq, Bool.not_eq_true'] at h1
    rcases h1 with h1 | ⟨h1, h2⟩
    · exact absurd h1 hij
    · refine ⟨h1, h2.imp (fun h => by simpa using h) fun h o ho => ?_⟩
      rw [ho] at h
      simpa using h
  · intro i hi
    have h1 := List.all_eq_true.1 hl i (List.mem_range.2 hi)
    cases ho : l.toArray[i]? with
    | none => rw [ho] at h1; cases h1
    | some o =>
      rw [ho] at h1
      refine ⟨o, rfl, fun e he hb => ?_⟩
      have h2 := Array.all_eq_true_iff_forall_mem.1 h1 e he
      simpa [hb] using h2
  · exact fun listed inv i hi hip hun t htn hr => tail_waitsP h1 h2 ht inv _ i rfl hi hip hun t htn hr
  · intro listed inv hall hun
    have hlist : listed = (Array.replicate n true ++ Array.replicate (l.toArray.size - n) false).setIfInBounds p false := by
      have hsz := inv.size
      refine Array.ext (by simp; simp at hsz; omega) fun i g1 g2 => ?_
      by_cases hip : i = p
      · subst hip
        rw [Array.getElem_setIfInBounds_self]
        have h3 := hun
        rw [Array.getD_eq_getD_getElem?, Array.getElem?_eq_getElem g1] at h3
        exact h3
      · rw [Array.getElem_setIfInBounds_ne (by simpa using g2) (fun e => hip e.symm), Array.getElem_append]
        split
        · rename_i h
          have := hall i (by simpa using h) hip
          simpa [g1] using this
        · rename_i h
          have := inv.tail i (by simpa using h) (by omega)
          simpa [g1] using this
    rw [hlist]
    exact ⟨hfr, hrd⟩
  · intro i hi o ho
    have := growAll_at (l.take n) 0 pre hop i o (by rw [List.getElem?_take_of_lt hi]; simpa using ho)
    simpa using this
  · intro listed f w' inv hall hb hd hf
    have hlist : listed = Array.replicate n true ++ Array.replicate (l.toArray.size - n) false := by
      have hsz := inv.size
      refine Array.ext (by simp; simp at hsz; omega) fun i h1 h2 => ?_
      rw [Array.getElem_append]
      split
      · rename_i h
        have := hall i (by simpa using h)
        simpa [h1] using this
      · rename_i h
        have := inv.tail i (by simpa using h) (by omega)
        simpa [h1] using this
    have hdl : (l.drop n).length = l.toArray.size - n := by simp
    have := wpAny_of_seq (P := P) (ops := l.toArray) (md := .any) (Q' := Q) (l.drop n) n listed _ w' (fun j => by simp [List.getElem?_drop]) (by rw [hdl, hlist]; exact hq) (hfin f w' hb hd hf)
    rwa [hdl] at this
  · exact ⟨⟨by simp, fun j oj _ hl => (by rw [getD_replicate_false] at hl; cases hl), fun t _ ht => getD_in (by simpa using ht) (getD_replicate_false _ _)⟩, by simp, fun i => ⟨fun h => (by simp at h), fun h => (by have h := h.2; rw [getD_replicate_false] at h; cases h)⟩, ⟨rfl, rfl, rfl, Nat.le_refl _, fun _ _ => rfl⟩, fun i hi => by simp at hi, fun i hi => by simp at hi, fun i hi => by simp at hi⟩
theorem wp_region_growP {id : Nat} {Q : Exit → Act → World → Prop} {a : Act} {W : World} {l : List Oper} (n p : Nat) (op : Oper) (pre : List (List Nat)) (fr : List Nat) (D : Nat → Value → World → Prop)
    (hm : P.follows .mixedOrders = true) (hB : Region.growPB .any l.toArray n p pre = true) (hpo : l.toArray[p]? = some op) (hpf : p ∉ fr)
    (hyield : ∀ f w', Below W.heap.size W w' → (∀ i, i < n → i ≠ p → D i (f i) w') → ∃ v, Yields P l.toArray op v (fillL l.toArray f ((List.range n).filter fun i => i != p) a) ∧ D p v w')
    (hQ : ∀ v c a w, Q (.panic c) (a.put op.dst v) w → Q (.panic c) a w)
    (hD : ∀ i v w1 w2, Below w1.heap.size w1 w2 → D i v w1 → D i v w2)
    (hop : growAll P l.toArray a W D fr 0 pre (l.take n))
    (hfin : ∀ f w', Below W.heap.size W w' → (∀ i, i < n → D i (f i) w') → (∀ i, i < n → ∀ j, j < n → i ∈ fr → j ∈ fr → i ≠ j → f i ≠ f j) → wpList P l.toArray Q (l.drop n) (fillL l.toArray f (List.range n) a) w') :
    (Code.region id l.toArray true).wp P Q a W := wp_region_any hm (any_region_growP n p op pre fr D hB hpo hpf hyield hQ hD hop hfin)
end
end Go.Proofs.YtdiehgfldndgbaaGreatDoor
namespace Go.Proofs.YtdiehgfldndgbaaGreatDoor
open Go.RowKit

/-- what one operation leaves -/
def growPostI (D : Nat → Nat → Nat → Value → World → Prop) (k : Nat) (w' w'' : World) (v : Value) : Prop := Below w'.heap.size w' w'' ∧ D k w'.heap.size w''.heap.size v w''
/-- what is asked of operation k, in a world behind w in which its forerunners are done -/
def growOneI (P : Program) (ops : Array Oper) (a : Act) (w : World) (pre : List Nat) (D : Nat → Nat → Nat → Value → World → Prop) (k : Nat) (o : Oper) : Prop :=
  ∀ (f : Nat → Value) (lo hi : Nat → Nat) (w' : World), Below w.heap.size w w' → (∀ j ∈ pre, D j (lo j) (hi j) (f j) w') →
    if Region.wanted o (yielded ops (fillL ops f pre a).tmps) then
      o.wp P (fillL ops f pre a) w' (fun a' w'' => ∃ v, a' = (fillL ops f pre a).put o.dst v ∧ growPostI D k w' w'' v) (fun _ _ _ => False)
    else D k w'.heap.size w'.heap.size undef w'
def growAllI (P : Program) (ops : Array Oper) (a : Act) (w : World) (D : Nat → Nat → Nat → Value → World → Prop) : Nat → List (List Nat) → List Oper → Prop
  | _, _, [] => True
  | k, pre, o :: rest => growOneI P ops a w (pre.headD []) D k o ∧ growAllI P ops a w D (k + 1) pre.tail rest

section
variable {P : Program} {ops : Array Oper} {md : Region.Mode} {w : World}

theorem growAllI_at {a : Act} {D : Nat → Nat → Nat → Value → World → Prop} : ∀ (l : List Oper) (k : Nat) (pre : List (List Nat)), growAllI P ops a w D k pre l → ∀ i o, l[i]? = some o → growOneI P ops a w (pre.getD i []) D (k + i) o
  | [], _, _, _, _, _, h => by simp at h
  | x :: l, k, pre, h, 0, o, ho => by
    simp at ho
    subst ho
    have := h.1
    cases pre <;> simpa using this
  | x :: l, k, pre, h, i + 1, o, ho => by
    have := growAllI_at l (k + 1) pre.tail h.2 i o (by simpa using ho)
    rw [show k + (i + 1) = k + 1 + i by omega]
    cases pre with
    | nil => simpa using this
    | cons p pre => simpa using this

/-- what holds when the operations S are done -/
structure GrowInvI (ops : Array Oper) (md : Region.Mode) (n : Nat) (w : World) (D : Nat → Nat → Nat → Value → World → Prop) (listed : Array Bool) (S : List Nat) (f : Nat → Value) (lo hi : Nat → Nat) (w' : World) : Prop where
  head : HeadInv md ops n listed
  nodup : S.Nodup
  mem : ∀ i, i ∈ S ↔ i < n ∧ listed.getD i false = true
  below : Below w.heap.size w w'
  done : ∀ i ∈ S, D i (lo i) (hi i) (f i) w'
  ivl : ∀ i ∈ S, w.heap.size ≤ lo i ∧ lo i ≤ hi i ∧ hi i ≤ w'.heap.size
  disj : ∀ i ∈ S, ∀ j ∈ S, i ≠ j → hi i ≤ lo j ∨ hi j ≤ lo i

theorem wpAny_growI {n g : Nat} {pre : List (List Nat)} {D : Nat → Nat → Nat → Value → World → Prop} {a : Act} {Q : Exit → Act → World → Prop}
    (hsel : ∀ (j : Nat) (o : Oper) cs b, ops[j]? = some o → o.op ≠ .select cs b)
    (hpre : ∀ i, i < n → ∀ j ∈ pre.getD i [], Region.waitsFor md ops i j = true ∧ j < n)
    (hdst : ∀ i, i < n → ∀ j, j < n → i ≠ j → ∀ t, Region.dstOf ops j = some t → Region.dstOf ops i ≠ some t ∧ (j ∈ pre.getD i [] ∨ ∀ o, ops[i]? = some o → t ∉ o.looksAt ops))
    (hlow : ∀ i, i < n → ∃ o, ops[i]? = some o ∧ ∀ e ∈ o.after, Region.binds md e = true → e.on < i)
    (htail : ∀ listed, HeadInv md ops n listed → ∀ i, i < n → listed.getD i true = false → ∀ t, n ≤ t → t ∉ Region.ready md ops listed)
    (hD : ∀ i lo hi v w1 w2, Below w1.heap.size w1 w2 → D i lo hi v w1 → D i lo hi v w2)
    (hop : ∀ i, i < n → ∀ o, ops[i]? = some o → growOneI P ops a w (pre.getD i []) D i o)
    (hfin : ∀ (listed : Array Bool) (f : Nat → Value) (lo hi : Nat → Nat) (w' : World), HeadInv md ops n listed → (∀ i, i < n → listed.getD i false = true) → Below w.heap.size w w' → (∀ i, i < n → D i (lo i) (hi i) (f i) w') → (∀ i, i < n → w.heap.size ≤ lo i ∧ lo i ≤ hi i ∧ hi i ≤ w'.heap.size) → (∀ i, i < n → ∀ j, j < n → i ≠ j → hi i ≤ lo j ∨ hi j ≤ lo i) → wpAny P md ops Q g listed (fillL ops f (List.range n) a) w') :
    ∀ (m : Nat) (listed : Array Bool) (S : List Nat) (f : Nat → Value) (lo hi : Nat → Nat) (w' : World), m + S.length = n → GrowInvI ops md n w D listed S f lo hi w' → wpAny P md ops Q (m + g) listed (fillL ops f S a) w' := by
  intro m
  induction m with
  | zero =>
    intro listed S f lo hi w' hm inv
    have hS : ∀ i, i < n → i ∈ S := nodup_all inv.nodup (fun i hi => ((inv.mem i).1 hi).1) (by omega)
    have hp : S.Perm (List.range n) := (List.perm_ext_iff_of_nodup inv.nodup List.nodup_range).2 fun i => ⟨fun h => List.mem_range.2 ((inv.mem i).1 h).1, fun h => hS i (List.mem_range.1 h)⟩
    rw [fillL_perm f hp fun x hx y hy hne t ht => (hdst y ((inv.mem y).1 hy).1 x ((inv.mem x).1 hx).1 (Ne.symm hne) t ht).1, Nat.zero_add]
    exact hfin listed f lo hi w' inv.head (fun i hi => ((inv.mem i).1 (hS i hi)).2) inv.below (fun i hi => inv.done i (hS i hi)) (fun i hi => inv.ivl i (hS i hi)) (fun i hi j hj => inv.disj i (hS i hi) j (hS j hj))
  | succ m ih =>
    intro listed S f lo hi w' hm inv
    have hsz := inv.head.size
    -- one that is not done yet
    have hex : ∃ i, i < n ∧ listed.getD i true = false := by
      by_cases h : ∃ i, i < n ∧ listed.getD i true = false
      · exact h
      · exfalso
        have : n ≤ S.length := by
          have := (List.nodup_range (n := n)).length_le_of_subset (l₂ := S) fun i hi => (inv.mem i).2 ⟨List.mem_range.1 hi, by
            have hi' := List.mem_range.1 hi
            obtain ⟨o, ho, _⟩ := hlow i hi'
            have hlt : i < listed.size := by rw [hsz]; exact (Array.getElem?_eq_some_iff.1 ho).1
            cases hb : listed.getD i false with
            | true => rfl
            | false => exact absurd ⟨i, hi', getD_in hlt hb⟩ h⟩
          simpa using this
        omega
    rw [show m + 1 + g = (m + g) + 1 by omega]
    refine ⟨fun h0 => ?_, fun i hi' => ?_⟩
    · -- the least of them is ready
      exfalso
      have least : ∀ k, k < n → listed.getD k true = false → False := by
        intro k
        induction k using Nat.strongRecOn with
        | _ k ihk =>
          intro hk hun
          have hr : k ∈ Region.ready md ops listed := by
            obtain ⟨o, ho, hl⟩ := hlow k hk
            refine mem_ready.2 ⟨hun, o, ho, fun e he hb => ?_⟩
            have hlt := hl e he hb
            cases hc : listed.getD e.on false with
            | true => rfl
            | false =>
              have : e.on < listed.size := by rw [hsz]; have := (Array.getElem?_eq_some_iff.1 ho).1; omega
              exact absurd (getD_in this hc) (fun h => ihk e.on hlt (by omega) h)
          rw [h0] at hr
          cases hr
      obtain ⟨i, hi, hun⟩ := hex
      exact least i hi hun
    · obtain ⟨i0, hi0, hun0⟩ := hex
      have hin : i < n := by
        rcases Nat.lt_or_ge i n with h | h
        · exact h
        · exact absurd hi' (htail listed inv.head i0 hi0 hun0 i h)
      obtain ⟨hun, o, ho, hall⟩ := mem_ready.1 hi'
      have hiS : i ∉ S := fun h => by have := ((inv.mem i).1 h).2; rw [getD_both hun] at this; cases this
      have hpS : ∀ j ∈ pre.getD i [], j ∈ S := fun j hj => by
        obtain ⟨hw, hjn⟩ := hpre i hin j hj
        obtain ⟨o', ho', e, he, hb, hon⟩ := Region.waitsFor_spec hw
        have : o' = o := Option.some.inj (ho'.symm.trans ho)
        subst this
        exact (inv.mem j).2 ⟨hjn, hon ▸ hall e he hb⟩
      have hne : ∀ j ∈ S, j ≠ i := fun j hj e => hiS (e ▸ hj)
      have hal : Alike1 ops o (fillL ops f S a) (fillL ops f (pre.getD i []) a) := fun t ht => by
        by_cases hx : ∃ j ∈ S, Region.dstOf ops j = some t
        · obtain ⟨j, hj, hjt⟩ := hx
          have hjn := ((inv.mem j).1 hj).1
          have uniq : ∀ k, k < n → Region.dstOf ops k = some t → k = j := fun k hk hkt => by
            by_cases e : k = j
            · exact e
            · exact absurd hkt (hdst k hk j hjn e t hjt).1
          have hjp : j ∈ pre.getD i [] := by
            rcases (hdst i hin j hjn (Ne.symm (hne j hj)) t hjt).2 with h | h
            · exact h
            · exact absurd ht (h o ho)
          rw [fillL_get_mem hjt S a hj fun k hk => uniq k ((inv.mem k).1 hk).1, fillL_get_mem hjt _ a hjp fun k hk => uniq k (hpre i hin k hk).2]
        · rw [fillL_get_not S a fun j hj e => hx ⟨j, hj, e⟩, fillL_get_not _ a fun j hj e => hx ⟨j, hpS j hj, e⟩]
      have H := hop i hin o ho f lo hi w' inv.below fun j hj => inv.done j (hpS j hj)
      -- the step to the next state
      have next : ∀ v w'', Below w'.heap.size w' w'' → D i w'.heap.size w''.heap.size v w'' → wpAny P md ops Q (m + g) (listed.setIfInBounds i true) ((fillL ops f S a).put o.dst v) w'' := fun v w'' hb hd => by
        have hput : (fillL ops f S a).put o.dst v = fillL ops (fun k => if k = i then v else f k) (S ++ [i]) a := by
          rw [fillL_append, fillL_congr (f := fun k => if k = i then v else f k) (g := f) S a fun j hj => by simp [hne j hj]]
          simp [fillL, Region.dstOf, ho]
        rw [hput]
        have hlt : i < listed.size := by rw [hsz]; exact (Array.getElem?_eq_some_iff.1 ho).1
        have hsz2 := hb.size
        have hbw := inv.below.size
        refine ih _ (S ++ [i]) _ (fun k => if k = i then w'.heap.size else lo k) (fun k => if k = i then w''.heap.size else hi k) w'' (by simp; omega) ⟨inv.head.set hi' hin, ?_, fun j => ?_, thn' inv.below hb, fun j hj => ?_, fun j hj => ?_, fun j hj k hk hjk => ?_⟩
        · rw [List.nodup_append]
          refine ⟨inv.nodup, by simp, fun x hx y hy => ?_⟩
          simp at hy
          subst hy
          exact hne x hx
        · simp only [List.mem_append, List.mem_singleton]
          by_cases e : j = i
          · subst e; simp [hin, hlt]
          · rw [getD_set_ne false (Ne.symm e), inv.mem j]; simp [e]
        · simp only [List.mem_append, List.mem_singleton] at hj
          rcases hj with hj | rfl
          · simp only [hne j hj, if_false]; exact hD j _ _ _ _ _ hb (inv.done j hj)
          · simpa using hd
        · simp only [List.mem_append, List.mem_singleton] at hj
          rcases hj with hj | rfl
          · have := inv.ivl j hj
            simp only [hne j hj, if_false]; omega
          · simp only [if_true]; omega
        · simp only [List.mem_append, List.mem_singleton] at hj hk
          rcases hj with hj | rfl <;> rcases hk with hk | rfl
          · simp only [hne j hj, hne k hk, if_false]; exact inv.disj j hj k hk hjk
          · have := inv.ivl j hj
            simp only [hne j hj, if_false, if_true]; omega
          · have := inv.ivl k hk
            simp only [hne k hk, if_false, if_true]; omega
          · exact absurd rfl hjk
      unfold wpOp
      simp only [ho]
      rw [hal.wanted]
      split
      · rename_i hw
        rw [if_pos hw] at H
        refine .inl ?_
        unfold Oper.wp at *
        rw [hal.exec (fun cs b => hsel i o cs b ho)]
        generalize (execOp (fillL ops f (pre.getD i []) a).eval o).run P w' = r at *
        have put_inj : ∀ v u, (fillL ops f (pre.getD i []) a).put o.dst v = (fillL ops f (pre.getD i []) a).put o.dst u → (fillL ops f S a).put o.dst v = (fillL ops f S a).put o.dst u := fun v u h => by
          cases hd : o.dst with
          | none => rfl
          | some d =>
            rw [hd] at h
            have e1 : ((fillL ops f (pre.getD i []) a).put (some d) v).tmps[d]? = ((fillL ops f (pre.getD i []) a).put (some d) u).tmps[d]? := by rw [h]
            rw [put_get_eq, put_get_eq] at e1
            have hd' : Region.dstOf ops i = some d := by simp [Region.dstOf, ho, hd]
            have u1 : ∀ j, j < n → j ≠ i → Region.dstOf ops j ≠ some d := fun j hj hji => by
              intro e
              exact (hdst i hin j hj (Ne.symm hji) d e).1 hd'
            have e2 : (fillL ops f (pre.getD i []) a).tmps[d]? = a.tmps[d]? := fillL_get_not _ a fun j hj => u1 j (hpre i hin j hj).2 (hne j (hpS j hj))
            have e3 : (fillL ops f S a).tmps[d]? = a.tmps[d]? := fillL_get_not _ a fun j hj => u1 j ((inv.mem j).1 hj).1 (hne j hj)
            rw [e2] at e1
            rcases Nat.lt_or_ge d a.tmps.size with hlt | hge
            · have : a.tmps[d]? = some a.tmps[d] := by simp [hlt]
              rw [this] at e1
              simp at e1
              rw [e1]
            · have h4 : (fillL ops f S a).tmps.size ≤ d := by
                rw [Array.getElem?_eq_none hge] at e3
                exact Array.getElem?_eq_none_iff.1 e3
              simp only [Act.put, Array.setIfInBounds]
              rw [dif_neg (by omega), dif_neg (by omega)]
        cases r with
        | ok x w1 =>
          cases x <;> simp only [Oper.upon] at H ⊢
          case value u =>
            obtain ⟨v, e, hb, hd⟩ := H
            rw [put_inj u v e]; exact next v _ hb hd
          case skip =>
            obtain ⟨v, e, hb, hd⟩ := H
            rw [put_inj _ v e]; exact next v _ hb hd
          case enter fn args =>
            refine H.mono fun e w'' he => ?_
            cases e with
            | returned u => obtain ⟨v, e, hb, hd⟩ := he; simp only; rw [put_inj u v e]; exact next v _ hb hd
            | panicked c => exact he.elim
            | outgrown => obtain ⟨_, _, h⟩ := he; exact h.elim
          case defer d =>
            obtain ⟨v, e, _⟩ := H
            have e := congrArg (fun x => x.defers.length) e
            have hl : ∀ (x : Act) (d : Option Tmp) (v : Value), (x.put d v).defers = x.defers := fun x d v => by cases d <;> rfl
            simp only [hl, List.length_cons] at e
            omega
          case row rw args =>
            refine H.mono fun u w'' ⟨v, e, hb, hd⟩ => ?_
            rw [put_inj u v e]; exact next v _ hb hd
        | halt x w1 => cases x <;> simp only [Oper.upon] at H ⊢ <;> exact H.elim
      · rename_i hw
        rw [if_neg hw] at H
        exact next undef w' (Below.refl _ _) H
/-- one operation of a region that draws its order, walked alone -/
theorem growOneI_of {a : Act} {pre : List Nat} {D : Nat → Nat → Nat → Value → World → Prop} {k : Nat} {o : Oper} (hg : o.guard = none)
    (h : ∀ (f : Nat → Value) (lo hi : Nat → Nat) (w' : World), Below w.heap.size w w' → (∀ j ∈ pre, D j (lo j) (hi j) (f j) w') →
      wpList P ops (fun ex a' w'' => ex = .normal ∧ ∃ v, a' = (fillL ops f pre a).put o.dst v ∧ growPostI D k w' w'' v) [o] (fillL ops f pre a) w') :
    growOneI P ops a w pre D k o := fun f lo hi w' hb hp => by
  have hw : ∀ y, Region.wanted o y = true := fun y => by simp [Region.wanted, hg]
  have H := h f lo hi w' hb hp
  simp only [wpList, hw, if_true] at H
  rw [if_pos (hw _)]
  rcases H with H | ⟨_, H⟩
  · unfold Oper.wp at *
    generalize (execOp (fillL ops f pre a).eval o).run P w' = r at *
    cases r with
    | ok x w1 =>
      cases x <;> simp only [Oper.upon] at H ⊢
      case enter fn args =>
        refine H.mono fun e w'' he => ?_
        cases e with
        | returned u => exact he.2
        | panicked c => exact absurd he.1 (by simp)
        | outgrown => obtain ⟨_, _, h⟩ := he; exact absurd h.1 (by simp)
      case row rw args => exact H.mono fun u w'' h => h.2
      all_goals first | exact H.2 | exact absurd H.1 (by simp)
    | halt x w1 => cases x <;> simp only [Oper.upon] at H ⊢ <;> first | exact H.elim | exact absurd H.1 (by simp)
  · obtain ⟨_, _, h⟩ := H; exact absurd h.1 (by simp)

theorem any_region_growI {Q : Exit → Act → World → Prop} {a : Act} {W : World} {l : List Oper} (n : Nat) (pre : List (List Nat)) (D : Nat → Nat → Nat → Value → World → Prop)
    (hB : Region.growB .any l.toArray n pre = true)
    (hD : ∀ i lo hi v w1 w2, Below w1.heap.size w1 w2 → D i lo hi v w1 → D i lo hi v w2)
    (hop : growAllI P l.toArray a W D 0 pre (l.take n))
    (hfin : ∀ (f : Nat → Value) (lo hi : Nat → Nat) (w' : World), Below W.heap.size W w' → (∀ i, i < n → D i (lo i) (hi i) (f i) w') → (∀ i, i < n → W.heap.size ≤ lo i ∧ lo i ≤ hi i ∧ hi i ≤ w'.heap.size) → (∀ i, i < n → ∀ j, j < n → i ≠ j → hi i ≤ lo j ∨ hi j ≤ lo i) → wpList P l.toArray Q (l.drop n) (fillL l.toArray f (List.range n) a) w') :
    wpAny P .any l.toArray Q l.toArray.size (Array.replicate l.toArray.size false) a W.drew := by
  simp only [Region.growB, Bool.and_eq_true] at hB
  obtain ⟨⟨⟨⟨⟨hs, hp⟩, hd⟩, hl⟩, ht⟩, hq⟩ := hB
  have hsel := Region.noSelect_spec hs
  have hn : n ≤ l.toArray.size := by
    simp only [Bool.or_eq_true, decide_eq_true_eq, Bool.and_eq_true] at ht
    omega
  have hn' : n ≤ l.length := by simpa using hn
  have H := wpAny_growI (P := P) (ops := l.toArray) (md := .any) (w := W) (n := n) (g := l.toArray.size - n) (pre := pre) (D := D) (a := a) (Q := Q) hsel ?_ ?_ ?_ ?_ hD ?_ ?_ n (Array.replicate l.toArray.size false) [] (fun _ => undef) (fun _ => 0) (fun _ => 0) W.drew (by simp) ?_
  · rw [show n + (l.toArray.size - n) = l.toArray.size by omega] at H
    exact H
  · intro i hi j hj
    have h1 := List.all_eq_true.1 (List.all_eq_true.1 hp i (List.mem_range.2 hi)) j hj
    simpa using h1
  · intro i hi j hj hij t hjt
    have h1 := List.all_eq_true.1 (List.all_eq_true.1 hd i (List.mem_range.2 hi)) j (List.mem_range.2 hj)
    rw [hjt] at h1
    simp only [Bool.or_eq_true, beq_iff_eq, Bool.and_eq_true, bne_iff_ne, ne_eq, Bool.not_eq_true'] at h1
    rcases h1 with h1 | ⟨h1, h2⟩
    · exact absurd h1 hij
    · refine ⟨h1, h2.imp (fun h => by simpa using h) fun h o ho => ?_⟩
      rw [ho] at h
      simpa using h
  · intro i hi
    have h1 := List.all_eq_true.1 hl i (List.mem_range.2 hi)
    cases ho : l.toArray[i]? with
    | none => rw [ho] at h1; cases h1
    | some o =>
      rw [ho] at h1
      refine ⟨o, rfl, fun e he hb => ?_⟩
      have h2 := Array.all_eq_true_iff_forall_mem.1 h1 e he
      simpa [hb] using h2
  · intro listed inv i hi hun t htn hr
    simp only [Bool.or_eq_true, decide_eq_true_eq, Bool.and_eq_true] at ht
    rcases ht with ht | ⟨⟨ht, h1⟩, h2⟩
    · obtain ⟨_, o, ho, _⟩ := mem_ready.1 hr
      have := (Array.getElem?_eq_some_iff.1 ho).1
      omega
    · exact tail_waits h1 h2 ht inv _ i rfl hi hun t htn hr
  · intro i hi o ho
    have := growAllI_at (l.take n) 0 pre hop i o (by rw [List.getElem?_take_of_lt hi]; simpa using ho)
    simpa using this
  · intro listed f lo hi w' inv hall hb hd hv hf
    have hlist : listed = Array.replicate n true ++ Array.replicate (l.toArray.size - n) false := by
      have hsz := inv.size
      refine Array.ext (by simp; simp at hsz; omega) fun i h1 h2 => ?_
      rw [Array.getElem_append]
      split
      · rename_i h
        have := hall i (by simpa using h)
        simpa [h1] using this
      · rename_i h
        have := inv.tail i (by simpa using h) (by omega)
        simpa [h1] using this
    have hdl : (l.drop n).length = l.toArray.size - n := by simp
    have := wpAny_of_seq (P := P) (ops := l.toArray) (md := .any) (Q' := Q) (l.drop n) n listed _ w' (fun j => by simp [List.getElem?_drop]) (by rw [hdl, hlist]; exact hq) (hfin f lo hi w' hb hd hv hf)
    rwa [hdl] at this
  · exact ⟨⟨by simp, fun j oj _ hl => (by rw [getD_replicate_false] at hl; cases hl), fun t _ ht => getD_in (by simpa using ht) (getD_replicate_false _ _)⟩, by simp, fun i => ⟨fun h => (by simp at h), fun h => (by have h := h.2; rw [getD_replicate_false] at h; cases h)⟩, ⟨rfl, rfl, rfl, Nat.le_refl _, fun _ _ => rfl⟩, fun i hi => by simp at hi, fun i hi => by simp at hi, fun i hi => by simp at hi⟩
theorem wp_region_growI {id : Nat} {Q : Exit → Act → World → Prop} {a : Act} {W : World} {l : List Oper} (n : Nat) (pre : List (List Nat)) (D : Nat → Nat → Nat → Value → World → Prop)
    (hm : P.follows .mixedOrders = true) (hB : Region.growB .any l.toArray n pre = true)
    (hD : ∀ i lo hi v w1 w2, Below w1.heap.size w1 w2 → D i lo hi v w1 → D i lo hi v w2)
    (hop : growAllI P l.toArray a W D 0 pre (l.take n))
    (hfin : ∀ (f : Nat → Value) (lo hi : Nat → Nat) (w' : World), Below W.heap.size W w' → (∀ i, i < n → D i (lo i) (hi i) (f i) w') → (∀ i, i < n → W.heap.size ≤ lo i ∧ lo i ≤ hi i ∧ hi i ≤ w'.heap.size) → (∀ i, i < n → ∀ j, j < n → i ≠ j → hi i ≤ lo j ∨ hi j ≤ lo i) → wpList P l.toArray Q (l.drop n) (fillL l.toArray f (List.range n) a) w') :
    (Code.region id l.toArray true).wp P Q a W := wp_region_any hm (any_region_growI n pre D hB hD hop hfin)
end
end Go.Proofs.YtdiehgfldndgbaaGreatDoor
