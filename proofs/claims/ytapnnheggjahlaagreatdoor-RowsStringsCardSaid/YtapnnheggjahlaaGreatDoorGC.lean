/-
  Awake: CONTRACT of the statements' own helper awake: true, whatever came before.
  App: APPEND onto a slice of values that the call itself has made; what such a slice reads as.
  Cut: CONTRACTS of the statements' helper Cut.
  UniC: A variable that holds a value; '==' and '!=' of two values.
  Chk: CONTRACT of package value: Check.
  Cut1: Cut of one value; a variable read as a list of one.
  Long: CONTRACT of the statements' helper Long.
-/
import Derived.Test.YtapnnheggjahlaaGreatDoorGB
import Derived.Deep.RegionHeld3
import Derived.Below
import Derived.Laws.OwnMore
import Derived.Deep.AppendLies
import Derived.Deep.Draws
import Derived.Maps.AppendAt
import Derived.RegionTactic
import Derived.OwnWalk
namespace Go.Proofs.YtapnnheggjahlaaGreatDoor
open Go.RowKit

theorem rNull_exact (w : World) :
    Calls Tryz.prog 130 #[] w fun e w' => e = .returned (.agg #[.int .i64 0, .int .i64 0, .string ⟨#[]⟩]) ∧ w' = w.alloc (.cells #[.int .i64 0, .int .i64 0, .string ⟨#[]⟩] 78) := by
  go_enter Tryz.func130, Tryz.ntmps130
  go_wp2
  exact bodyPost_ret (v := .agg #[.int .i64 0, .int .i64 0, .string ⟨#[]⟩]) (by simp [results, Tryz.results130, go_sem]) rfl ⟨rfl, rfl⟩
theorem rFalse_exact (w : World) :
    Calls Tryz.prog 131 #[.bool false] w fun e w' => e = .returned (.agg #[.int .i64 2, .int .i64 0, .string ⟨#[]⟩]) ∧ w' = w.alloc (.cells #[.int .i64 2, .int .i64 0, .string ⟨#[]⟩] 78) := by
  go_enter Tryz.func131, Tryz.ntmps131
  go_wp2
  exact bodyPost_ret (v := .agg #[.int .i64 2, .int .i64 0, .string ⟨#[]⟩]) (by simp [results, Tryz.results131, go_sem]) rfl ⟨rfl, rfl⟩

theorem decDigits_7 : Lib.decDigits 7 = [55] := by rw [Lib.decDigits]; rfl
theorem parse_007 : Lib.parseIntB 64 [48, 48, 55] = .ok 7 := by decide +kernel
theorem read_007 : readV ⟨#[48, 48, 55]⟩ = ⟨1, 7, ⟨#[]⟩⟩ := by
  have h : numV ⟨#[48, 48, 55]⟩ = 7 := by
    unfold numV
    have e : (⟨#[48, 48, 55]⟩ : ByteArray).data.toList = [48, 48, 55] := rfl
    rw [e, parse_007]
  unfold readV
  rw [if_neg (by decide), if_neg (by decide), if_neg (by decide), if_neg (by decide), if_neg (by decide), h]
theorem parses_007 : parses ⟨#[48, 48, 55]⟩ = false := by
  unfold parses
  rw [read_007]
  have e : strB 1 7 ⟨#[]⟩ = [55] := by
    show Lib.itoa 7 = _
    unfold Lib.itoa
    rw [if_neg (by decide)]
    exact decDigits_7
  rw [e, ByteArray.toList_eq, ByteArray.toList_eq]
  decide
theorem str_its : strB 3 0 ⟨#[105, 116, 39, 115]⟩ = [39, 105, 116, 39, 39, 115, 39] := by
  have e : Lib.replaceAll [105, 116, 39, 115] [39] [39, 39] = [105, 116, 39, 39, 115] := by decide +kernel
  show 39 :: (Lib.replaceAll [105, 116, 39, 115] [39] [39, 39] ++ [39]) = _
  rw [e]; rfl

theorem join_tn : joinV false [⟨2, b2i true, ⟨#[]⟩⟩, ⟨0, 0, ⟨#[]⟩⟩] = ⟨0, 0, ⟨#[]⟩⟩ := by
  unfold joinV
  rw [if_neg, if_pos]
  · decide
  · simp [V.isE, veq, b2i]
theorem join_nil : joinV true [] = ⟨2, 0, ⟨#[]⟩⟩ := rfl

end Go.Proofs.YtapnnheggjahlaaGreatDoor
namespace Go.Proofs.YtapnnheggjahlaaGreatDoor
open Go.RowKit

theorem block_of_add (a : Addr) (n : Nat) : (a.add n).block = a.block := by unfold Addr.add; split <;> rfl
theorem add_of_add (a : Addr) (i j : Nat) : (a.add i).add j = a.add (i + j) := by
  unfold Addr.add
  by_cases hi : i = 0 <;> by_cases hj : j = 0 <;> simp [hi, hj, Nat.add_assoc]

def Reads (w : World) (B size : Nat) (A : Option Addr) (n : Nat) (xs : List Value) : Prop :=
  xs.length = n * size ∧ (0 < n → ∃ ad, A = some ad ∧ ad.block < B ∧ ∀ j u, xs[j]? = some u → w.cell? (ad.add j) = some u)

section
variable {w w' : World} {B B' size n : Nat} {A : Option Addr} {xs : List Value}
theorem Reads.none_ : Reads w B size A 0 [] := ⟨by simp, fun h => absurd h (by omega)⟩
theorem Reads.at_ {k : Nat} (h : Reads w B 1 A n xs) (hk : k < n) : ∃ ad u, A = some ad ∧ ad.block < B ∧ xs[k]? = some u ∧ w.cell? (ad.add k) = some u := by
  obtain ⟨ad, e, hb, hc⟩ := h.2 (by omega)
  have hl : k < xs.length := by have := h.1; omega
  exact ⟨ad, xs[k], e, hb, List.getElem?_eq_getElem hl, hc k _ (List.getElem?_eq_getElem hl)⟩
theorem Reads.keep (h : Reads w B size A n xs) (hk : ∀ p : Addr, p.block < B → w'.cell? p = w.cell? p) : Reads w' B size A n xs :=
  ⟨h.1, fun hn => by
    obtain ⟨ad, e, hb, hc⟩ := h.2 hn
    exact ⟨ad, e, hb, fun j u hu => (hk _ (by rw [block_of_add]; exact hb)).trans (hc j u hu)⟩⟩
theorem Reads.more (h : Reads w B size A n xs) (hB : B ≤ B') : Reads w B' size A n xs :=
  ⟨h.1, fun hn => by
    obtain ⟨ad, e, hb, hc⟩ := h.2 hn
    exact ⟨ad, e, by omega, hc⟩⟩
theorem Reads.below (h : Reads w B size A n xs) (hb : Below B w w') : Reads w' B size A n xs := h.keep fun _ hp => hb.cell hp
theorem Reads.drew (h : Reads w B size A n xs) : Reads w.drew B size A n xs := h
theorem Reads.drewN (h : Reads w B size A n xs) (k : Nat) : Reads (w.drewN k) B size A n xs := h
theorem Reads.alloc (h : Reads w B size A n xs) (hB : B ≤ w.heap.size) (o : Obj) : Reads (w.alloc o) B size A n xs := h.keep fun p hp => World.cell?_alloc_lt w o p (by omega)
theorem Reads.setCell (h : Reads w B size A n xs) {p : Addr} (hB : B ≤ p.block) (u : Value) : Reads (w.setCell p u) B size A n xs :=
  h.keep fun q hq => World.cell?_setCell_other w p q u (fun e => by subst e; omega)
theorem Reads.grown (h : Reads w B size A n xs) {row : Option Nat} (hg : w.grownBy w' row) (hB : B ≤ w.heap.size) (hr : ∀ g, row = some g → B ≤ g) : Reads w' B size A n xs :=
  h.keep fun p hp => World.cell?_of_block (hg.block p.block (by omega) (fun e => by have := hr _ e.symm; omega))
theorem Reads.cut (h : Reads w B size A n xs) {k cap : Nat} (hk : k ≤ n) (hc : n ≤ cap) :
    Reads w B size (if cap = k then A else A.map (·.add (k * size))) (n - k) (xs.drop (k * size)) := by
  refine ⟨by rw [List.length_drop, h.1, Nat.sub_mul], fun hn => ?_⟩
  obtain ⟨ad, rfl, hb, hcell⟩ := h.2 (by omega)
  rw [if_neg (by omega)]
  refine ⟨ad.add (k * size), rfl, by rw [block_of_add]; exact hb, fun j u hu => ?_⟩
  rw [add_of_add]
  exact hcell _ u (by rw [← hu, List.getElem?_drop])
theorem Reads.of_own {base : Nat} {e : TypeId} {c : Nat} (h : w.ownsRow base e size (.slice A n c) n xs) : Reads w w.heap.size size A n xs := by
  refine ⟨h.1, fun hn => ?_⟩
  obtain ⟨g, cap, hv, _, hlt⟩ := h.form hn
  have hA : A = some ⟨g, 0, none⟩ := by injection hv
  subst hA
  exact ⟨_, rfl, hlt, h.cells (g := g) rfl⟩
end

section
variable {P : Program} (w : World)

theorem run_append_of_nil (base : Nat) (t ty e : TypeId) (i : TypeInfo) (size : Nat) (ht : P.underlying t = some (.slice e)) (hi : P.info? e = some i)
    (v : Value) (n : Nat) (xs : List Value) (hown : w.ownsRow base e size v n xs) (c : Nat) : (Builtin.append_ #[t, t] ty #[v, .slice none 0 c]).run P w = .ok v w := by
  rcases hown.2 with ⟨rfl, rfl⟩ | ⟨g, cap, cur, rfl, _, _, hnc, _⟩
  · simp [Builtin.append_, run_underlying ht, sizeOf, typeInfo, hi, Builtin.lenOf, Builtin.firstCells]
  · simp [Builtin.append_, run_underlying ht, sizeOf, typeInfo, hi, Builtin.lenOf, Builtin.firstCells, hnc, storeCells]

theorem run_append_any (base : Nat) (t ty e : TypeId) (i : TypeInfo) (z : Value) (size bytes : Nat) (ht : P.underlying t = some (.slice e)) (hi : P.info? e = some i) (hz : i.zero = some z)
    (hsize : i.size = size) (hby : i.bytes = bytes) (hzs : z.cells.size = size) (hsz : 0 < size)
    (v : Value) (n : Nat) (xs : List Value) (hown : w.ownsRow base e size v n xs)
    (B : Nat) (A : Option Addr) (m c : Nat) (news : List Value) (hr : Reads w B size A m news) (h1 : ∀ u ∈ news, u.oneCell' = true)
    (h63 : n + m ≤ maxLen) (hbytes : (n + m) * bytes ≤ 140737488355328) (hbase : base ≤ w.heap.size) :
    ∃ v' w', (Builtin.append_ #[t, t] ty #[v, .slice A m c]).run P w = .ok v' w' ∧ w'.ownsRow base e size v' (n + m) (xs ++ news) ∧ w.grownBy w' v.ownBlock ∧
      (v'.ownBlock = v.ownBlock ∨ v'.ownBlock = some w.heap.size) := by
  rcases A with _ | ad
  · have hm : m = 0 := by
      rcases Nat.eq_zero_or_pos m with h0 | h0
      · exact h0
      · obtain ⟨ad, h, _⟩ := hr.2 h0
        cases h
    subst hm
    have hn : news = [] := List.eq_nil_of_length_eq_zero (by simpa using hr.1)
    subst hn
    exact ⟨v, w, run_append_of_nil w base t ty e i size ht hi v n xs hown c, by simpa using hown, World.grownBy.refl w _, .inl rfl⟩
  · have hcells : ∀ j u, news[j]? = some u → w.cell? (ad.add j) = some u := by
      intro j u hu
      rcases Nat.eq_zero_or_pos m with h0 | h0
      · subst h0
        have hn : news = [] := List.eq_nil_of_length_eq_zero (by simpa using hr.1)
        subst hn
        simp at hu
      · obtain ⟨ad', h, _, hc⟩ := hr.2 h0
        injection h with h
        subst h
        exact hc j u hu
    obtain ⟨v', w', hrun, h2, h3, _, h5⟩ := run_append_own_at (P := P) w base t ty e i z size bytes ht hi hz hsize hby hzs hsz v n xs hown ad m c news hr.1 hcells h1 h63 hbytes hbase
    exact ⟨v', w', hrun, h2, h3, h5⟩

theorem wp_append_any {o : Oper} {a : Act} {K : Act → World → Prop} {Q : Exit → Act → World → Prop} (s x : Operand) (t : TypeId)
    (ho : o.op = .call { callee := .builtin .append, args := #[s, x], argTypes := #[t, t] })
    (base : Nat) (e : TypeId) (i : TypeInfo) (z : Value) (size bytes : Nat) (ht : P.underlying t = some (.slice e)) (hi : P.info? e = some i) (hz : i.zero = some z)
    (hsize : i.size = size) (hby : i.bytes = bytes) (hzs : z.cells.size = size) (hsz : 0 < size)
    (v : Value) (n : Nat) (xs : List Value) (hs : a.eval s = v) (hown : w.ownsRow base e size v n xs)
    (B : Nat) (A : Option Addr) (m c : Nat) (news : List Value) (hx : a.eval x = .slice A m c) (hr : Reads w B size A m news) (h1 : ∀ u ∈ news, u.oneCell' = true)
    (h63 : n + m ≤ maxLen) (hbytes : (n + m) * bytes ≤ 140737488355328) (hbase : base ≤ w.heap.size)
    (h : ∀ v' w', w'.ownsRow base e size v' (n + m) (xs ++ news) → w.grownBy w' v.ownBlock → (v'.ownBlock = v.ownBlock ∨ v'.ownBlock = some w.heap.size) → K (a.put o.dst v') w') : o.wp P a w K Q := by
  obtain ⟨v', w', hrun, h2, h3, h4⟩ := run_append_any (P := P) w base t o.type e i z size bytes ht hi hz hsize hby hzs hsz v n xs hown B A m c news hr h1 h63 hbytes hbase
  unfold Oper.wp execOp
  simp only [ho, resolve, invoke, builtin, Sem.run_bind, Sem.run_pure, Result.andThen_ok, List.map_toArray, List.map_cons, List.map_nil, hs, hx, hrun]
  exact h v' w' h2 h3 h4

theorem wpList_append_any {ops : Array Oper} {rest : List Oper} {o : Oper} {a : Act} {Q : Exit → Act → World → Prop} (hgd : o.guard = none) (s x : Operand) (t : TypeId)
    (ho : o.op = .call { callee := .builtin .append, args := #[s, x], argTypes := #[t, t] })
    (base : Nat) (e : TypeId) (i : TypeInfo) (z : Value) (size bytes : Nat) (ht : P.underlying t = some (.slice e)) (hi : P.info? e = some i) (hz : i.zero = some z)
    (hsize : i.size = size) (hby : i.bytes = bytes) (hzs : z.cells.size = size) (hsz : 0 < size)
    (v : Value) (n : Nat) (xs : List Value) (hs : a.eval s = v) (hown : w.ownsRow base e size v n xs)
    (B : Nat) (A : Option Addr) (m c : Nat) (news : List Value) (hx : a.eval x = .slice A m c) (hr : Reads w B size A m news) (h1 : ∀ u ∈ news, u.oneCell' = true)
    (h63 : n + m ≤ maxLen) (hbytes : (n + m) * bytes ≤ 140737488355328) (hbase : base ≤ w.heap.size)
    (h : ∀ v' w', w'.ownsRow base e size v' (n + m) (xs ++ news) → w.grownBy w' v.ownBlock → (v'.ownBlock = v.ownBlock ∨ v'.ownBlock = some w.heap.size) → wpList P ops Q rest (a.put o.dst v') w') : wpList P ops Q (o :: rest) a w :=
  wpList_plain hgd fun _ hK => wp_append_any w s x t ho base e i z size bytes ht hi hz hsize hby hzs hsz v n xs hs hown B A m c news hx hr h1 h63 hbytes hbase fun v' w' h2 h3 h4 => hK _ _ (h v' w' h2 h3 h4)

theorem step_append_any {ops : Array Oper} {o : Oper} {a : Act} {K : Act → World → Prop} {Q : Exit → Act → World → Prop} {E : Prop} (hgd : o.guard = none) (s x : Operand) (t : TypeId)
    (ho : o.op = .call { callee := .builtin .append, args := #[s, x], argTypes := #[t, t] })
    (base : Nat) (e : TypeId) (i : TypeInfo) (z : Value) (size bytes : Nat) (ht : P.underlying t = some (.slice e)) (hi : P.info? e = some i) (hz : i.zero = some z)
    (hsize : i.size = size) (hby : i.bytes = bytes) (hzs : z.cells.size = size) (hsz : 0 < size)
    (v : Value) (n : Nat) (xs : List Value) (hs : a.eval s = v) (hown : w.ownsRow base e size v n xs)
    (B : Nat) (A : Option Addr) (m c : Nat) (news : List Value) (hx : a.eval x = .slice A m c) (hr : Reads w B size A m news) (h1 : ∀ u ∈ news, u.oneCell' = true)
    (h63 : n + m ≤ maxLen) (hbytes : (n + m) * bytes ≤ 140737488355328) (hbase : base ≤ w.heap.size)
    (h : ∀ v' w', w'.ownsRow base e size v' (n + m) (xs ++ news) → w.grownBy w' v.ownBlock → (v'.ownBlock = v.ownBlock ∨ v'.ownBlock = some w.heap.size) → K (a.put o.dst v') w') :
    if Region.wanted o (yielded ops a.tmps) = true then Oper.wp P o a w K Q else E := by
  have hw : Region.wanted o (yielded ops a.tmps) = true := by simp [Region.wanted, hgd]
  rw [if_pos hw]
  exact wp_append_any w s x t ho base e i z size bytes ht hi hz hsize hby hzs hsz v n xs hs hown B A m c news hx hr h1 h63 hbytes hbase h
end

/-- the cells of values, one behind the other -/
def vcells (l : List V) : List Value := l.flatMap V.cells
theorem vcells_len : ∀ l : List V, (vcells l).length = l.length * 3
  | [] => rfl
  | v :: l => by
    have := vcells_len l
    unfold vcells at this ⊢
    rw [List.flatMap_cons, List.length_append, this]
    simp [V.cells]; omega
theorem vcells_at : ∀ (l : List V) (i j : Nat) (v : V), l[i]? = some v → j < 3 → (vcells l)[i * 3 + j]? = v.cells[j]?
  | [], i, j, v, h, _ => by simp at h
  | x :: l, 0, j, v, h, hj => by
    simp at h; subst h
    unfold vcells
    rw [List.flatMap_cons, List.getElem?_append_left (by simp [V.cells]; omega)]
    simp
  | x :: l, i + 1, j, v, h, hj => by
    have ih := vcells_at l i j v (by simpa using h) hj
    unfold vcells at ih ⊢
    rw [List.flatMap_cons, List.getElem?_append_right (by simp [V.cells]; omega)]
    have e : (i + 1) * 3 + j - x.cells.length = i * 3 + j := by simp [V.cells]; omega
    rw [e, ih]
theorem vcells_one (l : List V) : ∀ u ∈ vcells l, u.oneCell' = true := fun u hu => by
  unfold vcells at hu
  rw [List.mem_flatMap] at hu
  obtain ⟨v, _, hv⟩ := hu
  simp [V.cells] at hv
  rcases hv with rfl | rfl | rfl <;> rfl
theorem vcells_append (l r : List V) : vcells (l ++ r) = vcells l ++ vcells r := by simp [vcells]

theorem addN (b o j : Nat) : (Addr.mk b o none).add j = ⟨b, o + j, none⟩ := by
  unfold Addr.add; split <;> simp_all
/-- a slice of values as the append's source -/
theorem VReads.reads {w : World} {B : Nat} {A : Option Addr} {l : List V} (h : VReads w B A l) : Reads w B 3 A l.length (vcells l) :=
  ⟨vcells_len l, fun h0 => by
    obtain ⟨b, o, rfl, hb, hc⟩ := h h0
    refine ⟨⟨b, o, none⟩, rfl, hb, fun j u hu => ?_⟩
    have hj : j < (vcells l).length := by
      rcases Nat.lt_or_ge j (vcells l).length with h1 | h1
      · exact h1
      · rw [List.getElem?_eq_none h1] at hu; cases hu
    rw [vcells_len] at hj
    have hi : j / 3 < l.length := by omega
    have hv := List.getElem?_eq_getElem hi
    have hcc := hc _ _ hv
    have hm : j % 3 < 3 := Nat.mod_lt _ (by decide)
    have he : j = j / 3 * 3 + j % 3 := by omega
    have hat := vcells_at l (j / 3) (j % 3) _ hv hm
    rw [← he, hu] at hat
    rw [addN]
    rcases (show j % 3 = 0 ∨ j % 3 = 1 ∨ j % 3 = 2 by omega) with h3 | h3 | h3
    · rw [h3] at hat
      simp [V.cells] at hat
      rw [hat, show o + j = o + j / 3 * 3 by omega]
      exact hcc.1
    · rw [h3] at hat
      simp [V.cells] at hat
      rw [hat, show o + j = o + j / 3 * 3 + 1 by omega]
      exact hcc.2.1
    · rw [h3] at hat
      simp [V.cells] at hat
      rw [hat, show o + j = o + j / 3 * 3 + 2 by omega]
      exact hcc.2.2⟩

/-- what a row of the call's own reads as -/
theorem own_reads {w : World} {base : Nat} {e : TypeId} {v : Value} {l : List V} (h : w.ownsRow base e 3 v l.length (vcells l)) :
    ∃ (A : Option Addr) (c : Nat), v = .slice A l.length c ∧ l.length ≤ c ∧ c ≤ maxLen ∧ VReads w w.heap.size A l ∧ (0 < l.length → ∃ g, A = some ⟨g, 0, none⟩ ∧ base ≤ g) := by
  rcases h.2 with ⟨rfl, h0⟩ | ⟨g, cap, cur, rfl, hb, hh, hnc, hcm, hcs, htk⟩
  · exact ⟨none, 0, by rw [h0], by omega, Nat.zero_le _, (fun h1 => absurd h1 (by omega)), (fun h1 => absurd h1 (by omega))⟩
  · refine ⟨_, cap, rfl, hnc, hcm, (fun h1 => ?_), (fun _ => ⟨g, rfl, hb⟩)⟩
    have hg : g < w.heap.size := by
      rcases Nat.lt_or_ge g w.heap.size with h1 | h1
      · exact h1
      · rw [Array.getElem?_eq_none h1] at hh; cases hh
    refine ⟨g, 0, rfl, hg, fun i x hx => ?_⟩
    have cell : ∀ j, j < 3 → w.cell? ⟨g, i * 3 + j, none⟩ = x.cells[j]? := fun j hj => by
      rw [cell_of_row w g (i * 3 + j) cur e (0, 0) hh, ← vcells_at l i j x hx hj, ← htk]
      have hi : i < l.length := by
        rcases Nat.lt_or_ge i l.length with h1 | h1
        · exact h1
        · rw [List.getElem?_eq_none h1] at hx; cases hx
      rw [List.getElem?_take, if_pos (by omega)]
      simp
    have c0 := cell 0 (by decide)
    have c1 := cell 1 (by decide)
    have c2 := cell 2 (by decide)
    simp only [Nat.zero_add, Nat.add_zero] at c0 c1 c2 ⊢
    exact ⟨c0, c1, c2⟩

/-- a row of the call's own, behind a call that leaves old memory alone -/
theorem own_below {w w' : World} {base : Nat} {e : TypeId} {size n : Nat} {v : Value} {xs : List Value} (h : w.ownsRow base e size v n xs) (hb : Below w.heap.size w w') : w'.ownsRow base e size v n xs :=
  h.kept (row := none) ⟨hb.os, hb.tape, hb.output, hb.size, fun i hi _ => hb.block i hi⟩ (by cases v.ownBlock <;> simp)
theorem Blk.grown {w w' : World} {g : Nat} {t : TypeId} {cs : Array Value} {row : Option Nat} (h : Blk w g t cs) (hb : w.grownBy w' row) (hg : some g ≠ row) : Blk w' g t cs := (hb.block g h.lt hg).trans h
theorem own_base {w : World} {base : Nat} {e : TypeId} {size n : Nat} {v : Value} {xs : List Value} (h : w.ownsRow base e size v n xs) (g : Nat) (hg : v.ownBlock = some g) : base ≤ g := (h.lt g hg).1
end Go.Proofs.YtapnnheggjahlaaGreatDoor
namespace Go.Proofs.YtapnnheggjahlaaGreatDoor
open Go.RowKit

theorem infoV : (Tryz.prog.info? 78).map (fun i => (i.zero, i.size, i.bytes)) = some (some (.agg #[.int .i64 0, .int .i64 0, .string ⟨#[]⟩]), 3, 32) := by kernel_rfl

/-- a value whose text is cut -/
def V.cut (v : V) : V := ⟨v.k, v.n, v.s.extract 0 (min (v.s.size : Int) 202).toNat⟩
def cut (m : Nat) (l : List V) : List V := (l.take m).map V.cut

theorem cut_succ {l : List V} {k : Nat} (h : k < l.length) : cut (k + 1) l = cut k l ++ [V.cut l[k]] := by
  unfold cut
  rw [List.take_succ_eq_append_getElem h, List.map_append]; rfl
end Go.Proofs.YtapnnheggjahlaaGreatDoor
namespace Go.Proofs.YtapnnheggjahlaaGreatDoor
open Go.RowKit

def zV : V := ⟨0, 0, ⟨#[]⟩⟩
/-- a variable that holds a value: its three cells -/
def C3 (w : World) (g : Nat) (a b : Int) (s : ByteArray) : Prop :=
  g < w.heap.size ∧ w.cell? ⟨g, 0, none⟩ = some (.int .i64 a) ∧ w.cell? ⟨g, 1, none⟩ = some (.int .i64 b) ∧ w.cell? ⟨g, 2, none⟩ = some (.string s)
theorem C3.thn {w w' : World} {g : Nat} {a b : Int} {s : ByteArray} (h : C3 w g a b s) (hb : Below w.heap.size w w') : C3 w' g a b s :=
  ⟨Nat.lt_of_lt_of_le h.1 hb.size, (hb.cell (p := ⟨g, 0, none⟩) h.1).trans h.2.1, (hb.cell (p := ⟨g, 1, none⟩) h.1).trans h.2.2.1, (hb.cell (p := ⟨g, 2, none⟩) h.1).trans h.2.2.2⟩
theorem C3.al {w : World} {g : Nat} {a b : Int} {s : ByteArray} (h : C3 w g a b s) (o : Obj) : C3 (w.alloc o) g a b s := h.thn ((Below.refl _ _).alloc (Nat.le_refl _) o)
theorem C3.new {w : World} {T : TypeId} {a b : Int} {s : ByteArray} : C3 (w.alloc (.cells #[.int .i64 a, .int .i64 b, .string s] T)) w.heap.size a b s :=
  have h := Blk.new w T #[.int .i64 a, .int .i64 b, .string s]
  ⟨h.lt, h.cell 0, h.cell 1, h.cell 2⟩

theorem veq_self (a b : Int) (s : ByteArray) : veq a b s a b s = true := by simp [veq]
theorem veq_iff {a b : Int} {s : ByteArray} {a' b' : Int} {s' : ByteArray} : veq a b s a' b' s' = true ↔ (⟨a, b, s⟩ : V) = ⟨a', b', s'⟩ := by
  unfold veq
  rw [ByteArray.toList_eq, ByteArray.toList_eq]
  obtain ⟨⟨x⟩⟩ := s
  obtain ⟨⟨y⟩⟩ := s'
  simp

theorem neqV (a b : Int) (s : ByteArray) (a' b' : Int) (s' : ByteArray) (w : World) :
    (binOp .neq 78 (.agg #[.int .i64 a, .int .i64 b, .string s]) (.agg #[.int .i64 a', .int .i64 b', .string s'])).run Tryz.prog w = .ok (.bool (!veq a b s a' b' s')) w := by
  have hS : Tryz.prog.underlying 78 = some (.struct (Tryz.prog.fieldsOf 78)) := by kernel_rfl
  have hp : Tryz.prog.stoodInHeld 78 = false := by kernel_rfl
  rw [run_neq_struct, show (10000 : Nat) = 9999 + 1 from rfl, run_equalIn_agg w 9999 78 _ _ hS hp]
  simp only [Program.fieldsOf, Tryz.underlying78]
  go_simp
  unfold veq
  by_cases h1 : a = a' <;> by_cases h2 : b = b' <;> by_cases h3 : s.toList = s'.toList <;> simp [h1, h2, h3]

end Go.Proofs.YtapnnheggjahlaaGreatDoor
namespace Go.Proofs.YtapnnheggjahlaaGreatDoor
open Go.RowKit

set_option maxHeartbeats 400000 in
theorem Check_any (k n : Int) (s : ByteArray) (w : World) (hs : s.size ≤ maxLen) :
    Calls Tryz.prog 115 #[.agg #[.int .i64 k, .int .i64 n, .string s]] w fun e w' => e = .returned (.int .i64 (chk [⟨k, n, s⟩])) ∧ Below w.heap.size w w' := by
  go_enter Tryz.func115, Tryz.ntmps115
  go_wp2_with fail
  refine (check_any _ _ [⟨k, n, s⟩] _ (VReads.one (Blk.new' (g := w.heap.size + 1) (by simp)) (by simp)) (VFit.one hs) (by simp [maxLen])).mono ?_
  rintro e w1 ⟨rfl, hb1⟩
  go_wp2_with fail
  go_ret
  exact ⟨rfl, thn (al (al (Below.refl _ w) _) _) hb1⟩
end Go.Proofs.YtapnnheggjahlaaGreatDoor
namespace Go.Proofs.YtapnnheggjahlaaGreatDoor
open Go.RowKit

theorem cut_size (v : V) (h : v.s.size ≤ maxLen) : v.cut.s.size ≤ maxLen := by
  have : (v.s.extract 0 (min (v.s.size : Int) 202).toNat).size ≤ v.s.size := by
    rw [ByteArray.size_extract]; omega
  exact Nat.le_trans this h
theorem cut_fit {m : Nat} {l : List V} (h : VFit l) : VFit (cut m l) := fun v hv => by
  unfold cut at hv
  obtain ⟨u, hu, rfl⟩ := List.mem_map.1 hv
  exact cut_size u (h u (List.mem_of_mem_take hu))
theorem cut_len (m : Nat) (l : List V) : (cut m l).length ≤ m := by unfold cut; simp; omega

theorem C3.reads {w : World} {g : Nat} {a b : Int} {s : ByteArray} (h : C3 w g a b s) : VReads w w.heap.size (some ⟨g, 0, none⟩) [⟨a, b, s⟩] := fun _ => by
  refine ⟨g, 0, rfl, h.1, fun i v hi => ?_⟩
  cases i with
  | zero => simp at hi; subst hi; exact ⟨h.2.1, h.2.2.1, h.2.2.2⟩
  | succ i => simp at hi
end Go.Proofs.YtapnnheggjahlaaGreatDoor
namespace Go.Proofs.YtapnnheggjahlaaGreatDoor
open Go.RowKit

theorem own_empty (w : World) (e : TypeId) (size : Nat) : (w.alloc (.cells #[] e)).ownsRow w.heap.size e size (.slice (some ⟨w.heap.size, 0, none⟩) 0 0) 0 [] :=
  ⟨by simp, .inr ⟨w.heap.size, 0, #[], rfl, Nat.le_refl _, heap_alloc_new w _, Nat.le_refl _, Nat.zero_le _, by simp, by simp⟩⟩
def lenOf : Value → Nat
  | .slice _ n _ => n
  | _ => 0
end Go.Proofs.YtapnnheggjahlaaGreatDoor
