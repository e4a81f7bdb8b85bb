/-
  Key: CONTRACTS: rows.byKeys: the order by keys.
  Key2: CONTRACTS: rows.byKeys, shortest, checkKeys (where the keys are right), Ordered.
  Ord: CONTRACTS: rows.checkKeys where the keys are right; rows.Ordered.
-/
import Derived.Test.YtapnnheggjahlaaGreatDoorSets
namespace Go.Proofs.YtapnnheggjahlaaGreatDoor
open Go.RowKit

/-- a world behind W: all old memory stands, and draws only add up -/
structure AftL (W : World) where
  w : World
  h : Lay W w
instance (W : World) : Nonempty (AftL W) := ⟨⟨W, Lay.refl _⟩⟩
theorem region_aftL {P : Program} {id : Nat} {Q : Exit → Act → World → Prop} {a : Act} {W : World} {l : List Oper} (hm : P.follows .mixedOrders = true) (hB : Region.lexB .any l.toArray = true)
    (h : wpQuiet P l.toArray (fun w' => ∃ x : AftL W, w' = x.w) (fun a' => ∀ x : AftL W, Q .normal a' x.w) l a) : (Code.region id l.toArray true).wp P Q a W := by
  refine wp_region_quiet (C := fun w' => ∃ x : AftL W, w' = x.w) hm hB ⟨⟨_, (Lay.refl W).drew⟩, rfl⟩ ?_
  have e : (fun a' => ∀ w', (∃ x : AftL W, w' = x.w) → Q .normal a' w') = (fun a' => ∀ x : AftL W, Q .normal a' x.w) := by
    funext a'
    exact propext ⟨fun h x => h _ ⟨x, rfl⟩, fun h w' ⟨x, hx⟩ => hx ▸ h x⟩
  rw [e]
  simpa using h
theorem aftL_call {P : Program} {f : FuncId} {args : Array Value} {W : World} {x : AftL W} {v : Value}
    (h : Calls P f args x.w fun e w' => e = .returned v ∧ Lay x.w w') : Calls P f args x.w fun e w'' => e = .returned v ∧ ∃ y : AftL W, w'' = y.w :=
  h.mono fun _ w' ⟨he, hb⟩ => ⟨he, ⟨w', x.h.thn hb⟩, rfl⟩

/-- a slice of keys -/
def KReads (w : World) (B : Nat) (A : Option Addr) (ks : List (Int × Bool)) : Prop :=
  0 < ks.length → ∃ b o, A = some ⟨b, o, none⟩ ∧ b < B ∧ ∀ (i : Nat) (k : Int × Bool), ks[i]? = some k → w.cell? ⟨b, o + i * 2, none⟩ = some (.int .i64 k.1) ∧ w.cell? ⟨b, o + i * 2 + 1, none⟩ = some (.bool k.2)
theorem KReads.below {w w' : World} {B B' : Nat} {A : Option Addr} {ks : List (Int × Bool)} (h : KReads w B A ks) (hb : Below B w w') (hB : B ≤ B') : KReads w' B' A ks := fun h0 => by
  obtain ⟨b, o, rfl, hblk, hc⟩ := h h0
  refine ⟨b, o, rfl, by omega, fun i k hi => ?_⟩
  obtain ⟨c0, c1⟩ := hc i k hi
  exact ⟨(hb.cell (p := ⟨b, _, none⟩) hblk).trans c0, (hb.cell (p := ⟨b, _, none⟩) hblk).trans c1⟩
theorem KReads.at_ {w : World} {B : Nat} {A : Option Addr} {ks : List (Int × Bool)} (h : KReads w B A ks) {i : Nat} (hi : i < ks.length) : ∃ b o, A = some ⟨b, o, none⟩ ∧ b < B ∧ w.cell? ⟨b, o + i * 2, none⟩ = some (.int .i64 ks[i].1) ∧ w.cell? ⟨b, o + i * 2 + 1, none⟩ = some (.bool ks[i].2) := by
  obtain ⟨b, o, rfl, hblk, hc⟩ := h (by omega)
  exact ⟨b, o, rfl, hblk, hc i _ (List.getElem?_eq_getElem hi)⟩
/-- keys whose places are numbers -/
def kI (ks : List (Nat × Bool)) : List (Int × Bool) := ks.map fun k => ((k.1 : Int), k.2)
theorem cmpKs_skip : ∀ (ks : List (Nat × Bool)) (k : Nat) (a b : List V), (∀ (j : Nat) (h : j < ks.length), j < k → cmpKey ks[j] a b = 0) → cmpKs ks a b = cmpKs (ks.drop k) a b
  | [], k, a, b, _ => by simp
  | c :: cs, 0, a, b, _ => rfl
  | c :: cs, k + 1, a, b, h => by
    have h0 := h 0 (by simp) (by omega)
    simp only [List.getElem_cons_zero] at h0
    simp only [cmpKs, lexC, h0, if_true, List.drop_succ_cons]
    exact cmpKs_skip cs k a b fun j hj hk => by have := h (j + 1) (by simpa using hj) (by omega); simpa using this
theorem cmpKs_at {ks : List (Nat × Bool)} {k : Nat} {a b : List V} (hk : k < ks.length) (h : ∀ (j : Nat) (h : j < ks.length), j < k → cmpKey ks[j] a b = 0) (hne : cmpKey ks[k] a b ≠ 0) : cmpKs ks a b = cmpKey ks[k] a b := by
  rw [cmpKs_skip ks k a b h, List.drop_eq_getElem_cons hk]
  simp [cmpKs, lexC, hne]
theorem cmpKs_end {ks : List (Nat × Bool)} {a b : List V} (h : ∀ (j : Nat) (h : j < ks.length), j < ks.length → cmpKey ks[j] a b = 0) : cmpKs ks a b = 0 := by
  rw [cmpKs_skip ks ks.length a b h, List.drop_length]; rfl
/-- rows that the keys can tell apart -/
def KOk (ks : List (Nat × Bool)) (r : List V) : Prop := (OkR r ∧ r.length ≤ maxLen) ∧ ∀ k ∈ ks, k.1 < r.length

theorem cb_range2 : ∀ a b : List UInt8, Lib.compareBytes a b = -1 ∨ Lib.compareBytes a b = 0 ∨ Lib.compareBytes a b = 1
  | [], [] => .inr (.inl rfl)
  | [], _ :: _ => .inl rfl
  | _ :: _, [] => .inr (.inr rfl)
  | x :: a, y :: b => by
    unfold Lib.compareBytes
    split
    · exact .inl rfl
    · split
      · exact .inr (.inr rfl)
      · exact cb_range2 a b
theorem cmpW_range2 (x y : V) : cmpW x y = -1 ∨ cmpW x y = 0 ∨ cmpW x y = 1 := by
  unfold cmpW cmpV
  split
  · split
    · exact cb_range2 _ _
    · have := cmpI_cases x.n y.n; omega
  · have := cmpI_cases x.k y.k; omega
set_option maxHeartbeats 2000000 in
theorem byKeys1_lay (ks : List (Nat × Bool)) (g : Nat) (Ak : Option Addr) (ck : Nat) (A A' : Option Addr) (c1 c2 : Nat) (a b : List V) (w : World)
    (hg : w.cell? ⟨g, 0, none⟩ = some (.slice Ak ks.length ck)) (hk : KReads w w.heap.size Ak (kI ks)) (hks : ks.length ≤ 1000000) (hr : VReads w w.heap.size A a) (hr' : VReads w w.heap.size A' b) (ha : KOk ks a) (hb : KOk ks b) :
    Calls Tryz.prog 98 #[.slice A a.length c1, .slice A' b.length c2, .pointer (some ⟨g, 0, none⟩)] w fun e w' => e = .returned (.int .i64 (cmpKs ks a b)) ∧ Lay w w' := by
  have hla := ha.1.2
  have hlb := hb.1.2
  unfold maxLen at hla hlb
  have HA := Lib.hid (And.intro hk (And.intro hr (And.intro hr' (And.intro ha hb))))
  clear hk hr hr' ha hb
  go_enter Tryz.func98, Tryz.ntmps98
  go_wp2
  clear hg
  go_loopw [11] (fun i wr => ∃ k : Nat, k ≤ ks.length ∧ i = .int .i64 k ∧ Hid ((∀ (j : Nat) (h : j < ks.length), j < k → cmpKey ks[j] a b = 0) ∧ Lay w wr)) (fun i _ => ks.length - (intOf i).toNat)
  case atStart => exact ⟨0, Nat.zero_le _, rfl, fun j _ h => absurd h (by omega), Lay.refl _⟩
  case round =>
    obtain ⟨k, hk, rfl, HI⟩ := hrel
    by_cases hlt : k < ks.length
    · have hlt2 : k < (kI ks).length := by simp [kI]; exact hlt
      have hLw := HI.out.2.1
      obtain ⟨p, o, rfl, hblk, c0, c1'⟩ := (HA.out.1.below hLw hLw.size).at_ hlt2
      have e1 : (kI ks)[k] = ((ks[k].1 : Int), ks[k].2) := by simp [kI]
      rw [e1] at c0 c1'
      simp only at c0 c1'
      have hca : ks[k].1 < a.length := HA.out.2.2.2.1.2 _ (List.getElem_mem hlt)
      have hcb : ks[k].1 < b.length := HA.out.2.2.2.2.2 _ (List.getElem_mem hlt)
      obtain ⟨pa, oa, rfl, hba, a0, a1, a2⟩ := (HA.out.2.1.below hLw hLw.size).at_ hca
      obtain ⟨pb, ob, rfl, hbb, b0, b1, b2⟩ := (HA.out.2.2.1.below hLw hLw.size).at_ hcb
      obtain ⟨x, hx⟩ : ∃ x, x = a[ks[k].1] := ⟨_, rfl⟩
      obtain ⟨y, hy⟩ : ∃ y, y = b[ks[k].1] := ⟨_, rfl⟩
      have HKY : Hid (cmpKey ks[k] a b = if ks[k].2 then -cmpW x y else cmpW x y) := by
        show cmpKey ks[k] a b = _
        unfold cmpKey
        subst hx hy
        simp [hca, hcb]
      have hxo : x.ok = true := by rw [hx]; exact HA.out.2.2.2.1.1.1 _ (List.getElem_mem _)
      have hyo : y.ok = true := by rw [hy]; exact HA.out.2.2.2.2.1.1 _ (List.getElem_mem _)
      rw [← hx] at a0 a1 a2
      rw [← hy] at b0 b1 b2
      have HN := Lib.hid (fun h : cmpKey ks[k] a b ≠ 0 => cmpKs_at hlt HI.out.1 h)
      have HE := Lib.hid (fun h : cmpKey ks[k] a b = 0 => (fun j (hj : j < ks.length) (hjk : j < k + 1) => (if e : j = k then by subst e; exact h else HI.out.1 j hj (by omega) : cmpKey ks[j] a b = 0)))
      have HL := Lib.hid HI.out.2
      generalize cmpKey ks[k] a b = ck0 at *
      generalize ks[k].2 = dd at *
      generalize ks[k].1 = m at *
      have HO := Lib.hid (And.intro hxo hyo)
      have hma : (m : Int) < (a.length : Int) := by omega
      have hmb : (m : Int) < (b.length : Int) := by omega
      clear hx hy e1 hlt2 hLw HI hxo hyo
      go_wp2_with fail
      have HL1 := Lib.hid (HL.out.al (.cells #[.int .i64 (m : Int), .bool dd] 61))
      have kb := Blk.new wr 61 #[.int .i64 (m : Int), .bool dd]
      have hsz : pa < (wr.alloc (.cells #[.int .i64 (m : Int), .bool dd] 61)).heap.size ∧ pb < (wr.alloc (.cells #[.int .i64 (m : Int), .bool dd] 61)).heap.size := by simp; omega
      have hsz0 : wr.heap.size < (wr.alloc (.cells #[.int .i64 (m : Int), .bool dd] 61)).heap.size := by simp
      have X0 : ∀ z : AftL (wr.alloc (.cells #[.int .i64 (m : Int), .bool dd] 61)), z.w.cell? ⟨wr.heap.size, 0, none⟩ = some (.int .i64 (m : Int)) := fun z => (z.h.1.cell (p := ⟨wr.heap.size, 0, none⟩) hsz0).trans (kb.cell 0)
      have X1 : ∀ z : AftL (wr.alloc (.cells #[.int .i64 (m : Int), .bool dd] 61)), z.w.cell? ⟨wr.heap.size, 1, none⟩ = some (.bool dd) := fun z => (z.h.1.cell (p := ⟨wr.heap.size, 1, none⟩) hsz0).trans (kb.cell 1)
      have al0 : ∀ (q o : Nat), q < wr.heap.size → (wr.alloc (.cells #[.int .i64 (m : Int), .bool dd] 61)).cell? ⟨q, o, none⟩ = wr.cell? ⟨q, o, none⟩ := fun q o hq => World.cell?_alloc_lt wr _ _ hq
      have A0 : ∀ z : AftL (wr.alloc (.cells #[.int .i64 (m : Int), .bool dd] 61)), z.w.cell? ⟨pa, oa + m * 3, none⟩ = some (.int .i64 x.k) := fun z => (z.h.1.cell (p := ⟨pa, _, none⟩) hsz.1).trans ((al0 _ _ hba).trans a0)
      have A1 : ∀ z : AftL (wr.alloc (.cells #[.int .i64 (m : Int), .bool dd] 61)), z.w.cell? ⟨pa, oa + m * 3 + 1, none⟩ = some (.int .i64 x.n) := fun z => (z.h.1.cell (p := ⟨pa, _, none⟩) hsz.1).trans ((al0 _ _ hba).trans a1)
      have A2 : ∀ z : AftL (wr.alloc (.cells #[.int .i64 (m : Int), .bool dd] 61)), z.w.cell? ⟨pa, oa + m * 3 + 2, none⟩ = some (.string x.s) := fun z => (z.h.1.cell (p := ⟨pa, _, none⟩) hsz.1).trans ((al0 _ _ hba).trans a2)
      have B0 : ∀ z : AftL (wr.alloc (.cells #[.int .i64 (m : Int), .bool dd] 61)), z.w.cell? ⟨pb, ob + m * 3, none⟩ = some (.int .i64 y.k) := fun z => (z.h.1.cell (p := ⟨pb, _, none⟩) hsz.2).trans ((al0 _ _ hbb).trans b0)
      have B1 : ∀ z : AftL (wr.alloc (.cells #[.int .i64 (m : Int), .bool dd] 61)), z.w.cell? ⟨pb, ob + m * 3 + 1, none⟩ = some (.int .i64 y.n) := fun z => (z.h.1.cell (p := ⟨pb, _, none⟩) hsz.2).trans ((al0 _ _ hbb).trans b1)
      have B2 : ∀ z : AftL (wr.alloc (.cells #[.int .i64 (m : Int), .bool dd] 61)), z.w.cell? ⟨pb, ob + m * 3 + 2, none⟩ = some (.string y.s) := fun z => (z.h.1.cell (p := ⟨pb, _, none⟩) hsz.2).trans ((al0 _ _ hbb).trans b2)
      have HX : Hid (∀ z : AftL (wr.alloc (.cells #[.int .i64 (m : Int), .bool dd] 61)), Calls Tryz.prog 92 #[.agg #[.int .i64 x.k, .int .i64 x.n, .string x.s], .agg #[.int .i64 y.k, .int .i64 y.n, .string y.s]] z.w fun e w' => e = .returned (.int .i64 (cmpW x y)) ∧ Lay z.w w') := fun z => compareValues_lay x y z.w HO.out.1 HO.out.2
      clear a0 a1 a2 b0 b1 b2 al0 kb hsz c0 c1' hsz0
      refine region_aftL (by kernel_rfl) (by kernel_rfl) ?_
      repeat (go_big_quiet_step ((exact aftL_call (HX.out _))))
      refine wpQuiet_nil ?_
      intro x9
      have W9 := Lib.hid (HL1.out.thn x9.h)
      have d1 := X1 x9
      have hcr := cmpW_range2 x y
      have HKY2 := Lib.hid HKY.out
      clear X0 X1 A0 A1 A2 B0 B1 B2 HX HKY HL HL1
      generalize cmpW x y = r at *
      have hr0 : -1 ≤ r := by omega
      have hr1 : r ≤ 1 := by omega
      clear hcr
      cases dd
      all_goals
        by_cases hz : r = 0
        · have hck : ck0 = 0 := by have := HKY2.out; simp [hz] at this; exact this
          have HE2 := Lib.hid (HE.out hck)
          subst hz
          clear HE HN HKY2 hck
          go_wp2_with fail
          go_roundw
          case rel => exact ⟨k + 1, by omega, by go_num, HE2.out, W9.out⟩
          case measure => simp [intOf]; omega
        · have hck : ck0 ≠ 0 := by have := HKY2.out; simp at this; omega
          have HN2 := Lib.hid (HN.out hck)
          have hrb : (r != 0) = true := by simp [hz]
          have hrn : (-r != 0) = true := by simp [hz]
          have HK3 := Lib.hid HKY2.out
          clear hz hck HE HN HKY2
          go_wp2_with fail
          go_ret
          exact ⟨ret_int (by rw [HN2.out, HK3.out]; simp), W9.out⟩
    · have hka : k = ks.length := by omega
      subst hka
      have HE := Lib.hid (cmpKs_end HI.out.1)
      go_wp2_with fail
      go_ret
      exact ⟨ret_int HE.out.symm, HI.out.2⟩
end Go.Proofs.YtapnnheggjahlaaGreatDoor
namespace Go.Proofs.YtapnnheggjahlaaGreatDoor
open Go.RowKit

theorem IsOrd.imp {P P' : List V → Prop} {c : List V → List V → Int} {fv : Value} {w : World} (h : IsOrd P c fv w) (hp : ∀ r, P' r → P r) : IsOrd P' c fv w := by
  obtain ⟨g, cb, e, he, hc⟩ := h
  exact ⟨g, cb, e, he, fun w1 h1 A A' c1 c2 a b h2 h3 h4 h5 => hc w1 h1 A A' c1 c2 a b h2 h3 (hp _ h4) (hp _ h5)⟩
theorem byKeys_any (Ak : Option Addr) (n ck : Nat) (w : World) :
    Calls Tryz.prog 72 #[.slice Ak n ck] w fun e w' => e = .returned (.func (.func 98) #[] #[.pointer (some ⟨w.heap.size, 0, none⟩)]) ∧ w' = w.alloc (.cells #[.slice Ak n ck] 58) := by
  go_enter Tryz.func72, Tryz.ntmps72
  go_wp2
  go_ret
  exact ⟨rfl, rfl⟩
theorem byKeys_isOrd (ks : List (Nat × Bool)) (g : Nat) (T : TypeId) (Ak : Option Addr) (ck : Nat) (w : World) (hg : Blk w g T #[.slice Ak ks.length ck]) (hk : KReads w w.heap.size Ak (kI ks)) (hks : ks.length ≤ 1000000) :
    IsOrd (KOk ks) (cmpKs ks) (.func (.func 98) #[] #[.pointer (some ⟨g, 0, none⟩)]) w :=
  ⟨_, _, rfl, enters_of Tryz.func98 (by kernel_rfl) rfl, fun w1 hb A A' c1 c2 a b hr hr' ha hb' =>
    byKeys1_lay ks g Ak ck A A' c1 c2 a b w1 (((hg.below hb hg.lt).cell 0).trans rfl) (hk.below hb hb.size) hks hr hr' ha hb'⟩
theorem ordC_two (ks : List (Nat × Bool)) : ordC [cmpKs ks, cmpR] = cmpKR ks := by
  show lexC (cmpKs ks) (ordC [cmpR]) = _
  rw [ordC_one]; rfl

/-- how many values the shortest row has, at most 16 -/
def sh (L : List (List V)) : Nat := L.foldl (fun n r => min n r.length) 16
theorem sh_snoc (L : List (List V)) (r : List V) : sh (L ++ [r]) = min (sh L) r.length := by simp [sh]
theorem sh_le16 (L : List (List V)) : sh L ≤ 16 := by
  unfold sh
  have : ∀ (L : List (List V)) (n : Nat), n ≤ 16 → L.foldl (fun n r => min n r.length) n ≤ 16 := fun L => by
    induction L with
    | nil => intro n h; exact h
    | cons r L ih => intro n h; exact ih _ (by show min n r.length ≤ 16; omega)
  exact this L 16 (Nat.le_refl _)
theorem sh_le {L : List (List V)} {r : List V} (h : r ∈ L) : sh L ≤ r.length := by
  unfold sh
  have mono : ∀ (L : List (List V)) (n m : Nat), n ≤ m → L.foldl (fun n r => min n r.length) n ≤ m := fun L => by
    induction L with
    | nil => intro n m h; exact h
    | cons r L ih => intro n m h; exact ih _ _ (by show min n r.length ≤ m; omega)
  have : ∀ (L : List (List V)) (n : Nat), r ∈ L → L.foldl (fun n r => min n r.length) n ≤ r.length := fun L => by
    induction L with
    | nil => intro n h; cases h
    | cons x L ih =>
      intro n h
      cases h with
      | head => exact mono L _ _ (by show min n r.length ≤ r.length; omega)
      | tail _ h => exact ih _ h
  exact this L 16 h
set_option maxHeartbeats 1000000 in
theorem shortest_any (A : Option Addr) (c : Nat) (L : List (List V)) (w : World) (hr : LReads w w.heap.size A L) (hL : L.length ≤ 20000) (hl : ∀ r ∈ L, r.length ≤ 16) :
    Calls Tryz.prog 97 #[.slice A L.length c] w fun e w' => e = .returned (.int .i64 (sh L : Nat)) ∧ w = w' := by
  have HR := Lib.hid (And.intro hr hl)
  clear hr hl
  go_enter Tryz.func97, Tryz.ntmps97
  go_wp2
  go_loop [3, 8] (fun n i => ∃ k : Nat, k ≤ L.length ∧ i = .int .i64 k ∧ n = .int .i64 (sh (L.take k) : Nat)) (fun _ i => L.length - (intOf i).toNat)
  case atStart => exact ⟨0, Nat.zero_le _, rfl, rfl⟩
  case round =>
    obtain ⟨k, hk, rfl, rfl⟩ := hrel
    by_cases hlt : k < L.length
    · obtain ⟨p, o, Ar, cr, rfl, hblk, hcell, _, _⟩ := HR.out.1.at_ hlt
      have hl16 := HR.out.2 L[k] (List.getElem_mem hlt)
      have HN : Hid (sh (L.take (k + 1)) = min (sh (L.take k)) L[k].length) := by show sh _ = _; rw [List.take_succ_eq_append_getElem hlt, sh_snoc]
      have h16 := sh_le16 (L.take k)
      generalize sh (L.take k) = m at *
      go_wp2
      all_goals
        go_round
        case rel => exact ⟨k + 1, by omega, by go_num, by rw [HN.out]; simp <;> omega⟩
        case measure => simp [intOf]; omega
    · have hkn : k = L.length := by omega
      subst hkn
      have HE : Hid (sh (L.take L.length) = sh L) := by show sh _ = _; rw [List.take_length]
      go_wp2
      go_ret
      exact ⟨rfl, rfl⟩

/-! keys, each place once -/
def dedStep (acc : List (Nat × Bool)) (k : Nat × Bool) : List (Nat × Bool) := if acc.any (fun q => q.1 == k.1) then acc else acc ++ [k]
def dedK (ks : List (Nat × Bool)) : List (Nat × Bool) := ks.foldl dedStep []
theorem dedK_snoc (ks : List (Nat × Bool)) (k : Nat × Bool) : dedK (ks ++ [k]) = dedStep (dedK ks) k := by simp [dedK]
theorem dedK_mem {ks : List (Nat × Bool)} : ∀ k ∈ dedK ks, k ∈ ks := by
  unfold dedK
  have : ∀ (l acc : List (Nat × Bool)) (k : Nat × Bool), k ∈ l.foldl dedStep acc → k ∈ acc ∨ k ∈ l := fun l => by
    induction l with
    | nil => intro acc k h; exact .inl h
    | cons x l ih =>
      intro acc k h
      rcases ih _ k h with h | h
      · unfold dedStep at h
        split at h
        · exact .inl h
        · simp only [List.mem_append, List.mem_singleton] at h
          rcases h with h | rfl
          · exact .inl h
          · exact .inr (List.mem_cons_self ..)
      · exact .inr (List.mem_cons_of_mem _ h)
  intro k hk
  rcases this ks [] k hk with h | h
  · cases h
  · exact h
theorem dedK_len (ks : List (Nat × Bool)) : (dedK ks).length ≤ ks.length := by
  unfold dedK
  have : ∀ (l acc : List (Nat × Bool)), (l.foldl dedStep acc).length ≤ acc.length + l.length := fun l => by
    induction l with
    | nil => intro acc; simp
    | cons x l ih =>
      intro acc
      have h1 := ih (dedStep acc x)
      have h2 : (dedStep acc x).length ≤ acc.length + 1 := by unfold dedStep; split <;> simp
      simp only [List.foldl_cons, List.length_cons]
      omega
  simpa using this ks []
/-- what tells two rows apart -/
theorem cmpKs_cons (k : Nat × Bool) (a : List (Nat × Bool)) (x y : List V) : cmpKs (k :: a) x y = if cmpKey k x y = 0 then cmpKs a x y else cmpKey k x y := rfl
theorem cmpKs_append : ∀ (a b : List (Nat × Bool)) (x y : List V), cmpKs (a ++ b) x y = if cmpKs a x y = 0 then cmpKs b x y else cmpKs a x y
  | [], b, x, y => by simp [cmpKs]
  | k :: a, b, x, y => by
    have e1 := cmpKs_cons k (a ++ b) x y
    have e2 := cmpKs_cons k a x y
    have ih := cmpKs_append a b x y
    rw [List.cons_append]
    by_cases h : cmpKey k x y = 0
    · rw [if_pos h] at e1 e2
      rw [e1, e2]
      exact ih
    · rw [if_neg h] at e1 e2
      rw [e1, e2, if_neg h]
theorem cmpKs_zero {a : List (Nat × Bool)} {x y : List V} (h : cmpKs a x y = 0) : ∀ k ∈ a, cmpKey k x y = 0 := by
  induction a with
  | nil => intro k hk; cases hk
  | cons q a ih =>
    simp only [cmpKs, lexC] at h
    by_cases e : cmpKey q x y = 0
    · rw [if_pos e] at h
      intro k hk
      cases hk with
      | head => exact e
      | tail _ hk => exact ih h k hk
    · rw [if_neg e] at h; exact absurd h e
theorem cmpKey_place {k q : Nat × Bool} (h : q.1 = k.1) {x y : List V} (h0 : cmpKey q x y = 0) : cmpKey k x y = 0 := by
  unfold cmpKey at h0 ⊢
  rw [h] at h0
  split at h0 <;> split <;> omega
theorem cmpKs_ded (ks : List (Nat × Bool)) : cmpKs (dedK ks) = cmpKs ks := by
  have : ∀ (l acc : List (Nat × Bool)) (x y : List V), cmpKs (l.foldl dedStep acc) x y = cmpKs (acc ++ l) x y := fun l => by
    induction l with
    | nil => intro acc x y; simp
    | cons k l ih =>
      intro acc x y
      rw [List.foldl_cons, ih]
      unfold dedStep
      split
      · rename_i h
        obtain ⟨q, hq, e⟩ := List.any_eq_true.1 h
        have e : q.1 = k.1 := by simpa using e
        rw [cmpKs_append, cmpKs_append]
        by_cases h0 : cmpKs acc x y = 0
        · rw [if_pos h0, if_pos h0]
          have h1 := cmpKey_place e (cmpKs_zero h0 q hq)
          simp [cmpKs, lexC, h1]
        · rw [if_neg h0, if_neg h0]
      · rw [List.append_assoc]; rfl
  funext x y
  exact this ks [] x y
def kcells (ks : List (Nat × Bool)) : List Value := ks.flatMap fun k => [.int .i64 (k.1 : Int), .bool k.2]
theorem kcells_len (ks : List (Nat × Bool)) : (kcells ks).length = ks.length * 2 := by
  induction ks with
  | nil => rfl
  | cons k ks ih => simp only [kcells, List.flatMap_cons, List.length_append, List.length_cons, List.length_nil] at ih ⊢; omega
theorem kcells_append (a b : List (Nat × Bool)) : kcells (a ++ b) = kcells a ++ kcells b := by simp [kcells]
theorem kcells_at : ∀ (ks : List (Nat × Bool)) (i : Nat) (k : Nat × Bool), ks[i]? = some k → (kcells ks)[i * 2]? = some (.int .i64 (k.1 : Int)) ∧ (kcells ks)[i * 2 + 1]? = some (.bool k.2)
  | [], i, k, h => by simp at h
  | q :: ks, 0, k, h => by
    simp at h
    subst h
    simp [kcells]
  | q :: ks, i + 1, k, h => by
    have := kcells_at ks i k (by simpa using h)
    have e : kcells (q :: ks) = [.int .i64 (q.1 : Int), .bool q.2] ++ kcells ks := by simp [kcells]
    rw [e, List.getElem?_append_right (by simp; omega), List.getElem?_append_right (by simp; omega)]
    have e1 : (i + 1) * 2 - [Value.int .i64 (q.1 : Int), .bool q.2].length = i * 2 := by simp; omega
    have e2 : (i + 1) * 2 + 1 - [Value.int .i64 (q.1 : Int), .bool q.2].length = i * 2 + 1 := by simp; omega
    rw [e1, e2]
    exact this
theorem own_kreads {w : World} {base : Nat} {e : TypeId} {v : Value} {ks : List (Nat × Bool)} (h : w.ownsRow base e 2 v ks.length (kcells ks)) :
    ∃ (A : Option Addr) (c : Nat), v = .slice A ks.length c ∧ KReads w w.heap.size A (kI ks) := by
  rcases h.2 with ⟨rfl, h0⟩ | ⟨g, cap, cur, rfl, hb, hh, hnc, hcm, hcs, htk⟩
  · exact ⟨none, 0, by rw [h0], fun h1 => by simp [kI] at h1; omega⟩
  · refine ⟨_, cap, rfl, fun _ => ⟨g, 0, rfl, ?_, fun i k hk => ?_⟩⟩
    · rcases Nat.lt_or_ge g w.heap.size with h1 | h1
      · exact h1
      · rw [Array.getElem?_eq_none h1] at hh; cases hh
    · simp only [kI, List.getElem?_map, Option.map_eq_some_iff] at hk
      obtain ⟨q, hq, rfl⟩ := hk
      have hi : i < ks.length := by
        rcases Nat.lt_or_ge i ks.length with h1 | h1
        · exact h1
        · rw [List.getElem?_eq_none h1] at hq; cases hq
      obtain ⟨h1, h2⟩ := kcells_at ks i q hq
      rw [← htk, List.getElem?_take, if_pos (by omega)] at h1 h2
      rw [cell_of_row w g _ cur e (0, 0) hh, cell_of_row w g _ cur e (0, 0) hh]
      simp only [Array.getElem?_toList, Nat.zero_add] at h1 h2 ⊢
      exact ⟨h1, h2⟩
end Go.Proofs.YtapnnheggjahlaaGreatDoor
namespace Go.Proofs.YtapnnheggjahlaaGreatDoor
open Go.RowKit

theorem infoK : (Tryz.prog.info? 61).map (fun i => (i.zero, i.size, i.bytes)) = some (some (.agg #[.int .i64 0, .bool false]), 2, 16) := by kernel_rfl
theorem own_weak {w : World} {b b' : Nat} {e : TypeId} {m n : Nat} {v : Value} {cs : List Value} (h : w.ownsRow b e m v n cs) (hb : b' ≤ b) : w.ownsRow b' e m v n cs :=
  ⟨h.1, h.2.imp id fun ⟨g, cap, cur, e, h1, h2⟩ => ⟨g, cap, cur, e, Nat.le_trans hb h1, h2⟩⟩
theorem own_set {w : World} {b : Nat} {e : TypeId} {m n : Nat} {v : Value} {cs : List Value} (h : w.ownsRow b e m v n cs) {p : Addr} (hp : p.block < b) (u : Value) : (w.setCell p u).ownsRow b e m v n cs := by
  refine h.kept (row := some p.block) ⟨rfl, rfl, rfl, by simp [World.setCell], fun k _ hk => Below.heap_setCell _ _ _ _ (fun e => hk (by simp [e]))⟩ ?_
  cases hv : v.ownBlock with
  | none => exact .inl rfl
  | some k => exact .inr fun e => by have := own_base h k hv; cases e; omega
/-- which places were seen -/
def seenC (acc : List (Nat × Bool)) : Array Value := ((List.range 16).map fun j => Value.bool (acc.any fun q => q.1 == j)).toArray
theorem seenC_at (acc : List (Nat × Bool)) (m : Nat) (h : m < 16) : (seenC acc)[m]? = some (.bool (acc.any fun q => q.1 == m)) := by simp [seenC, h]
theorem seenC_set (acc : List (Nat × Bool)) (k : Nat × Bool) (h : k.1 < 16) : (seenC acc).setIfInBounds k.1 (.bool true) = seenC (acc ++ [k]) := by
  have h := Nat.lt_of_lt_of_le h (Nat.le_refl _)
  apply Array.ext
  · simp [seenC]
  · intro i h1 h2
    have hi : i < 16 := by simpa [seenC] using h2
    rw [Array.getElem_setIfInBounds (by simpa using h1)]
    by_cases e : k.1 = i
    · simp [seenC, e]
    · simp [seenC, e]
theorem kread_one {w : World} {g B : Nat} {T : TypeId} {m : Nat} {d : Bool} (h : Blk w g T #[.int .i64 (m : Int), .bool d]) (hg : g < B) : Reads w B 2 (some ⟨g, 0, none⟩) 1 (kcells [(m, d)]) :=
  ⟨rfl, fun _ => ⟨_, rfl, hg, fun j u hj => by
    rw [addN, Nat.zero_add, h.cell j]
    match j, hj with
    | 0, hj => simpa [kcells] using hj
    | 1, hj => simpa [kcells] using hj
    | j + 2, hj => simp [kcells] at hj⟩⟩
theorem kcells_one (ks : List (Nat × Bool)) : ∀ u ∈ kcells ks, u.oneCell' = true := fun u hu => by
  unfold kcells at hu
  rw [List.mem_flatMap] at hu
  obtain ⟨k, _, h⟩ := hu
  simp only [List.mem_cons, List.not_mem_nil, or_false] at h
  rcases h with rfl | rfl <;> rfl

set_option maxHeartbeats 2000000 in
theorem checkKeys_ok (A : Option Addr) (c : Nat) (L : List (List V)) (Ak : Option Addr) (ck : Nat) (ks : List (Nat × Bool)) (w : World) (hr : LReads w w.heap.size A L) (hi : InL L) (h0 : chkR [L] = 0) (hne : L ≠ []) (hk : KReads w w.heap.size Ak (kI ks)) (hkl : ks.length ≤ 1000000) (hin : ∀ k ∈ ks, k.1 < sh L) :
    Calls Tryz.prog 71 #[.slice A L.length c, .slice Ak ks.length ck] w fun e w' => ∃ v, e = .returned (.tuple #[v, .int .i64 0]) ∧ w'.ownsRow w.heap.size 61 2 v (dedK ks).length (kcells (dedK ks)) ∧ Below w.heap.size w w' := by
  have HA := Lib.hid (And.intro hr (And.intro hi (And.intro hk (And.intro hin (fine_of h0 (L := L) (by simp) hi)))))
  have he : (chkR [L] != 0) = false := by simp [h0]
  have hl0 : ((L.length : Int) == 0) = false := by
    cases L with
    | nil => exact absurd rfl hne
    | cons x l => simp; omega
  have hL2 := HA.out.2.2.2.2.2.1
  obtain ⟨i0, hi0, hz0, hz1, hz2⟩ := info_parts infoK
  clear hr hi h0 hk hin hne
  go_enter Tryz.func71, Tryz.ntmps71
  go_wp2_with fail
  have q1 := Blk.new w 23 #[.slice A L.length c]
  have q2 : Below w.heap.size w (w.alloc (.cells #[.slice A L.length c] 23)) := al (Below.refl _ _) _
  have q3 := LLReads.one q1 (HA.out.1.below q2 q2.size)
  refine (checkR_any _ _ [L] _ q3 (fun X hX => ?_) (by simp)).mono ?_
  · simp only [List.mem_cons, List.not_mem_nil, or_false] at hX
    subst hX
    exact HA.out.2.1.fit
  rintro e w1 ⟨rfl, hb1⟩
  have W1 := Lib.hid (thn q2 hb1)
  clear q1 q2 q3 hb1
  go_wp2_with fail
  refine (shortest_any A c L _ (HA.out.1.below (al W1.out _) (al W1.out _).size) hL2 HA.out.2.2.2.2.2.2).mono ?_
  rintro e w2 ⟨rfl, rfl⟩
  have W2 := Lib.hid (And.intro (al W1.out (.cells (seenC []) 135)) (Blk.new w1 135 (seenC [])))
  go_wp2_with fail
  go_loopw [8, 25] (fun u i wr => ∃ k : Nat, k ≤ ks.length ∧ i = .int .i64 k ∧ Hid (wr.ownsRow (w1.heap.size + 1) 61 2 u (dedK (ks.take k)).length (kcells (dedK (ks.take k))) ∧ Blk wr w1.heap.size 135 (seenC (dedK (ks.take k))) ∧ Below w1.heap.size w1 wr ∧ w1.heap.size + 1 ≤ wr.heap.size)) (fun _ i _ => ks.length - (intOf i).toNat)
  case atStart => exact ⟨0, Nat.zero_le _, rfl, Lib.hid ⟨⟨rfl, .inl ⟨rfl, rfl⟩⟩, W2.out.2, al (Below.refl _ _) _, by simp⟩⟩
  case round =>
    obtain ⟨k, hk, rfl, HI⟩ := hrel
    by_cases hlt : k < ks.length
    · have hbw := W1.out.trans (HI.out.2.2.1.mono W1.out.size)
      obtain ⟨b, o, rfl, hbb, hc1, hc2⟩ := (HA.out.2.2.1.below hbw hbw.size).at_ (i := k) (by simp [kI]; exact hlt)
      have hm := HA.out.2.2.2.1 ks[k] (List.getElem_mem hlt)
      have hs16 := sh_le16 L
      have HK := Lib.hid (show ks.take (k + 1) = ks.take k ++ [ks[k]] from List.take_succ_eq_append_getElem hlt)
      simp only [kI, List.getElem_map] at hc1 hc2
      have hmk : ks[k] = (ks[k].1, ks[k].2) := rfl
      rw [hmk] at HK
      generalize ks[k].2 = d at *
      generalize ks[k].1 = m at *
      have hc3 : ¬ (m : Int) < 0 := by omega
      have hc4 : ¬ (sh L : Int) ≤ (m : Int) := by omega
      have HC := Lib.hid (And.intro hm hs16)
      have hc5 : ¬ 16 ≤ (m : Int) := by omega
      have hs1 : w1.heap.size < wr.heap.size := HI.out.2.2.2
      have hse := (HI.out.2.1.cell m).trans (seenC_at _ m (by omega))
      have HQ : Hid (dedK (ks.take (k + 1)) = if (dedK (ks.take k)).any (fun q => q.1 == m) then dedK (ks.take k) else dedK (ks.take k) ++ [(m, d)]) := by
        show dedK _ = _
        rw [HK.out, dedK_snoc]; rfl
      generalize (dedK (ks.take k)).any (fun q => q.1 == m) = sb at hse HQ
      have HB := Lib.hid hbw
      clear hmk hm hs16 hbw
      cases sb
      · have q0 : (wr.setCell ⟨w1.heap.size, m, none⟩ (.bool true)).heap.size = wr.heap.size := by simp [World.setCell]
        have q1 := Blk.new ((wr.setCell ⟨w1.heap.size, m, none⟩ (.bool true)).alloc (.cells #[.int .i64 (m : Int), .bool d] 61)) 61 #[.int .i64 (m : Int), .bool d]
        have q1s : ((wr.setCell ⟨w1.heap.size, m, none⟩ (.bool true)).alloc (.cells #[.int .i64 (m : Int), .bool d] 61)).heap.size = wr.heap.size + 1 := by simp [q0]
        rw [q1s] at q1
        have q2 := kread_one q1 (B := wr.heap.size + 1 + 1) (by omega)
        have q3 : World.ownsRow (wr.setCell ⟨w1.heap.size, m, none⟩ (.bool true)) (w1.heap.size + 1) 61 2 u8 (dedK (ks.take k)).length (kcells (dedK (ks.take k))) := own_set HI.out.1 (by simp) _
        have HW := Lib.hid (And.intro ((q3.alloc (.cells #[.int .i64 (m : Int), .bool d] 61)).alloc (.cells #[.int .i64 (m : Int), .bool d] 61)) (And.intro q2 (dedK_len (ks.take k))))
        have hfz := (HI.out.2.1.alloc (.cells #[.int .i64 (m : Int), .bool d] 61)).frozen m
        clear q0 q1 q1s q2 q3
        set_option maxRecDepth 6000 in go_wp2_with (at_builtin; refine wpList_append_any _ rfl (.tmp 46) (.tmp 48) 58 rfl (w1.heap.size + 1) 61 i0 (.agg #[.int .i64 0, .bool false]) 2 16 Tryz.underlying58 hi0 hz0 hz1 hz2 rfl (by decide) _ _ _ rfl HW.out.1 (wr.heap.size + 1 + 1) _ 1 1 (kcells [(m, d)]) rfl HW.out.2.1 ?c1 ?c2 ?c3 ?c4 ?_)
        case c1 => exact kcells_one _
        case c2 => have := HW.out.2.2; rw [List.length_take] at this; unfold maxLen; omega
        case c3 => have := HW.out.2.2; rw [List.length_take] at this; omega
        case c4 => omega
        intro v2 w2 hown2 hgr2 _
        have HN : Hid (w2.ownsRow (w1.heap.size + 1) 61 2 v2 (dedK (ks.take (k + 1))).length (kcells (dedK (ks.take (k + 1)))) ∧ Blk w2 w1.heap.size 135 (seenC (dedK (ks.take (k + 1)))) ∧ Below w1.heap.size w1 w2 ∧ w1.heap.size + 1 ≤ w2.heap.size) := by
          have hq := HQ.out
          simp only [Bool.false_eq_true, if_false] at hq
          have b1 : Below (w1.heap.size + 1) (wr.setCell ⟨w1.heap.size, m, none⟩ (.bool true)) w2 := (((Below.refl _ _).alloc (by simp [World.setCell]; omega) _).alloc (by simp [World.setCell]; omega) _).grown hgr2 (by simp [World.setCell]; omega) fun r e => own_base HI.out.1 r e
          have b2 : Blk w2 w1.heap.size 135 (seenC (dedK (ks.take k) ++ [(m, d)])) := by
            have := (HI.out.2.1.set_ m (.bool true)).below b1 (by omega)
            rwa [seenC_set _ (m, d) (by omega)] at this
          rw [hq, List.length_append, kcells_append]
          exact ⟨hown2, b2, (HI.out.2.2.1.setCell (p := ⟨w1.heap.size, m, none⟩) (Nat.le_refl _) _).trans (b1.mono (by omega)), Nat.le_trans (by simp [World.setCell]; omega) b1.size⟩
        clear hown2 hgr2 hfz
        set_option maxRecDepth 6000 in go_wp2_with fail
        go_roundw
        case rel => exact ⟨k + 1, by omega, by go_num, HN⟩
        case measure => simp [intOf]; omega
      · set_option maxRecDepth 6000 in go_wp2_with fail
        go_roundw
        case rel => exact ⟨k + 1, by omega, by go_num, Lib.hid (by rw [HQ.out]; exact ⟨HI.out.1.alloc _, HI.out.2.1.alloc _, HI.out.2.2.1.alloc (by omega) _, by simp; omega⟩)⟩
        case measure => simp [intOf]; omega
    · have hkn : k = ks.length := by omega
      subst hkn
      go_wp2_with fail
      go_ret2
      have hI := HI.out
      rw [List.take_length] at hI
      exact ⟨_, rfl, own_weak hI.1 (by have := W1.out.size; omega), thn W1.out hI.2.2.1⟩

theorem InL.okR {L : List (List V)} (h : FineL L) (hl : ∀ r ∈ L, r.length ≤ 16) : ∀ r ∈ L, OkR r ∧ r.length ≤ maxLen :=
  fun r hr => ⟨fun v hv => ((h r hr).2 v hv).1, by have := hl r hr; unfold maxLen; omega⟩

set_option maxHeartbeats 1000000 in
theorem Ordered_ok (A : Option Addr) (c : Nat) (L : List (List V)) (Ak : Option Addr) (ck : Nat) (ks : List (Nat × Bool)) (w : World) (hr : LReads w w.heap.size A L) (hi : InL L) (h0 : chkR [L] = 0) (hne : L ≠ []) (hk : KReads w w.heap.size Ak (kI ks)) (hkl : ks.length ≤ 1000000) (hin : ∀ k ∈ ks, k.1 < sh L) :
    Calls Tryz.prog 42 #[.slice A L.length c, .slice Ak ks.length ck] w fun e w' => ∃ g vs, e = .returned (.tuple #[.slice (some ⟨g, 0, none⟩) L.length L.length, .int .i64 0]) ∧ w.heap.size ≤ g ∧ Blk w' g 34 vs.toArray ∧ OwnRs w' w.heap.size vs (srtC (cmpKR ks) L) ∧ Below w.heap.size w w' := by
  have f1 := fine_of h0 (L := L) (by simp) hi
  have HA := Lib.hid (And.intro hr (And.intro f1 (And.intro (InL.okR f1.1 f1.2.2) (And.intro hne hin))))
  have HC := Lib.hid (checkKeys_ok A c L Ak ck ks w hr hi h0 hne hk hkl hin)
  have HL := Lib.hid hkl
  clear hr hi h0 hk hin hne f1 hkl
  go_enter Tryz.func42, Tryz.ntmps42
  go_wp2_with fail
  refine HC.out.mono ?_
  rintro e w1 ⟨v, rfl, hown, hb1⟩
  obtain ⟨Ad, cd, rfl, hkr⟩ := own_kreads hown
  have W1 := Lib.hid (And.intro hkr hb1)
  have HD := Lib.hid (Nat.le_trans (dedK_len ks) HL.out)
  clear hown hkr hb1
  go_wp2_with fail
  refine (byKeys_any _ _ _ w1).mono ?_
  rintro e w2 ⟨rfl, rfl⟩
  go_wp2_with fail
  obtain ⟨f1, hok, hne, hin⟩ := HA.out.2
  have q1 := Blk.new w1 58 #[.slice Ad (dedK ks).length cd]
  have q2 := Blk.new (w1.alloc (.cells #[.slice Ad (dedK ks).length cd] 58)) 100 #[.func (.func 98) #[] #[.pointer (some ⟨w1.heap.size, 0, none⟩)], .func (.func 61) #[] #[]]
  rw [show (w1.alloc (.cells #[.slice Ad (dedK ks).length cd] 58)).heap.size = w1.heap.size + 1 by simp] at q2

  have b1 : Below w1.heap.size w1 ((w1.alloc (.cells #[.slice Ad (dedK ks).length cd] 58)).alloc (.cells #[.func (.func 98) #[] #[.pointer (some ⟨w1.heap.size, 0, none⟩)], .func (.func 61) #[] #[]] 100)) := al (al (Below.refl _ _) _) _
  have hk2 : ∀ k ∈ dedK ks, k.1 < sh L := fun k h => hin k (dedK_mem k h)
  refine (sorted_any (KOk (dedK ks)) [cmpKs (dedK ks), cmpR] (by rw [ordC_two]; exact cmpKR_WO _) (fun a b h => by rw [ordC_two] at h; exact cmpKR_eq a b h) (by simp) A c L _ _ (HA.out.1.below (thn W1.out.2 b1) (thn W1.out.2 b1).size) (fun r h => ⟨hok r h, fun k hk => Nat.lt_of_lt_of_le (hk2 k hk) (sh_le h)⟩) (fun r h => by have := f1.2.2 r h; omega) f1.2.1 ⟨_, 0, 2, rfl, by simp, fun j hj => ?_⟩ (fun h => absurd h hne)).mono ?_
  · match j, hj with
    | 0, _ => exact ⟨_, q2.cell 0, byKeys_isOrd (dedK ks) w1.heap.size _ Ad cd _ (q1.alloc _) (W1.out.1.below b1 b1.size) HD.out⟩
    | 1, _ => exact ⟨_, q2.cell 1, (compare_isOrd _).imp fun r h => h.1⟩
  rintro e w3 ⟨g, vs, rfl, hg, hb, hrs, hb3⟩
  have HO := Lib.hid (And.intro hg (And.intro hb (And.intro hrs (thn (thn W1.out.2 b1) hb3))))
  have hsz := (thn W1.out.2 b1).size
  have HS := Lib.hid hsz
  clear hg hb hrs hb3 q1 q2 b1 hk2 f1 hok hne hin hsz
  go_wp2_with fail
  go_ret2
  obtain ⟨o1, o2, o3, o4⟩ := HO.out
  refine ⟨g, vs, rfl, Nat.le_trans HS.out o1, o2, ?_, o4⟩
  have : srtC (cmpKR ks) L = srtC (ordC [cmpKs (dedK ks), cmpR]) L := by rw [ordC_two]; unfold cmpKR; rw [cmpKs_ded]
  rw [this]
  exact o3.weaker HS.out
end Go.Proofs.YtapnnheggjahlaaGreatDoor
