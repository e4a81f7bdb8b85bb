/-
  Rw1: CONTRACTS: two values, two rows compared (rows.compareValues, rows.compare), as the library's sort asks.
  Rw2: CONTRACTS: the comparison that rows.sorted hands to the library: by the first of some orders that tells.
  Rw3: CONTRACT: the library's sort at a list of rows of the call's own.
  Rw4: CONTRACT: rows.sorted: copies of the rows, in the order of some orders.
  Rw5: CONTRACT: rows.sorted: copies of the rows, in the order of some orders.
-/
import Derived.Test.YtapnnheggjahlaaGreatDoorGJ
import Derived.Test.YtapnnheggjahlaaGreatDoorReg
import Derived.Test.YtapnnheggjahlaaGreatDoorSort
import Derived.Lib.OwnBridge
import Derived.Test.YtapnnheggjahlaaGreatDoorGC
namespace Go.Proofs.YtapnnheggjahlaaGreatDoor
open Go.RowKit

theorem cmpR_drop : ∀ (k : Nat) (a b : List V), k ≤ a.length → k ≤ b.length → a.take k = b.take k → cmpR a b = cmpR (a.drop k) (b.drop k)
  | 0, _, _, _, _, _ => rfl
  | k + 1, [], _, h, _, _ => by simp at h
  | k + 1, _ :: _, [], _, h, _ => by simp at h
  | k + 1, x :: a, y :: b, h1, h2, h => by
    simp only [List.take_succ_cons, List.cons.injEq] at h
    obtain ⟨rfl, h⟩ := h
    simp only [List.drop_succ_cons]
    rw [← cmpR_drop k a b (by simpa using h1) (by simpa using h2) h]
    simp [cmpR, cmpW_self]
theorem cmpR_at {a b : List V} {k : Nat} (h1 : k < a.length) (h2 : k < b.length) (h : a.take k = b.take k) (hne : cmpW a[k] b[k] ≠ 0) : cmpR a b = cmpW a[k] b[k] := by
  rw [cmpR_drop k a b (by omega) (by omega) h, List.drop_eq_getElem_cons h1, List.drop_eq_getElem_cons h2]
  simp [cmpR, hne]
theorem cmpR_same {a b : List V} {k : Nat} (h1 : k < a.length) (h2 : k < b.length) (h : a.take k = b.take k) (he : cmpW a[k] b[k] = 0) : a.take (k + 1) = b.take (k + 1) := by
  rw [List.take_succ_eq_append_getElem h1, List.take_succ_eq_append_getElem h2, h, cmpW_eq he]
theorem cmpR_more {a b : List V} {k : Nat} (h1 : k < a.length) (h2 : k = b.length) (h : a.take k = b.take k) : cmpR a b = 1 := by
  rw [cmpR_drop k a b (by omega) (by omega) h, List.drop_eq_getElem_cons h1, show List.drop k b = [] from List.drop_eq_nil_of_le (by omega)]
  rfl
theorem cmpR_end {a b : List V} (h2 : a.length ≤ b.length) (h : a = b.take a.length) : cmpR a b = if a.length < b.length then -1 else 0 := by
  rw [cmpR_drop a.length a b (Nat.le_refl _) h2 (by rw [List.take_length]; exact h), List.drop_length]
  split
  · rename_i hlt
    rw [List.drop_eq_getElem_cons hlt]; rfl
  · rw [List.drop_eq_nil_of_le (by omega)]; rfl
theorem okV_size {v : V} (h : v.ok = true) : v.s.size ≤ maxLen := by
  unfold V.ok okVal okText at h
  unfold maxLen
  have e : v.s.size = v.s.data.toList.length := by simp
  rw [e]
  split at h
  · simp at h; simp [h.2]
  · split at h
    · simp at h; simp [h]
    · split at h
      · simp at h; simp [h.2]
      · split at h
        · simp only [Bool.and_eq_true, decide_eq_true_eq] at h; omega
        · cases h

set_option maxHeartbeats 400000 in
theorem compareValues_lay (x y : V) (w : World) (hx : x.ok = true) (hy : y.ok = true) :
    Calls Tryz.prog 92 #[.agg #[.int .i64 x.k, .int .i64 x.n, .string x.s], .agg #[.int .i64 y.k, .int .i64 y.n, .string y.s]] w fun e w' => e = .returned (.int .i64 (cmpW x y)) ∧ Lay w w' := by
  have heq := @eqV
  by_cases e : x = y
  · subst e
    have hv := veq_self x.k x.n x.s
    have HR : Hid (cmpW x x = 0) := cmpW_self x
    clear hx hy
    go_enter Tryz.func92, Tryz.ntmps92
    go_wp2_with fail
    go_ret
    exact ⟨ret_int HR.out.symm, ((Lay.refl _).al _).al _⟩
  · have hv : veq x.k x.n x.s y.k y.n y.s = false := by
      rw [Bool.eq_false_iff]
      exact fun h => e (veq_iff.1 h)
    have HS := Lib.hid (And.intro (okV_size hx) (okV_size hy))
    have HC : Hid (chk [⟨x.k, x.n, x.s⟩, ⟨y.k, y.n, y.s⟩] = 0) := chk_good (by simp) (by
      have e1 : V.ok ⟨x.k, x.n, x.s⟩ = true := hx
      have e2 : V.ok ⟨y.k, y.n, y.s⟩ = true := hy
      simp [e1, e2])
    clear hx hy e
    go_enter Tryz.func92, Tryz.ntmps92
    go_wp2_with fail
    refine (Compare_lay x.k x.n x.s y.k y.n y.s _ HS.out.1 HS.out.2 HC.out).mono ?_
    rintro e w1 ⟨rfl, hb1⟩
    have W1 := Lib.hid ((((Lay.refl w).al _).al _).thn hb1)
    clear hb1
    have HCM : Hid (cmpV x.k x.n x.s y.k y.n y.s = cmpW x y) := rfl
    generalize cmpV x.k x.n x.s y.k y.n y.s = r at *
    go_wp2_with fail
    go_ret
    exact ⟨ret_int HCM.out, W1.out⟩

/-- all values of a row are right -/
def OkR (r : List V) : Prop := ∀ v ∈ r, v.ok = true
set_option maxHeartbeats 1000000 in
theorem CompareFunc_lay (A A' : Option Addr) (c c' : Nat) (a b : List V) (w : World) (hr : VReads w w.heap.size A a) (hr' : VReads w w.heap.size A' b) (ha : OkR a) (hb : OkR b) (hn : a.length ≤ maxLen) (hn' : b.length ≤ maxLen) :
    Calls Tryz.prog 91 #[.slice A a.length c, .slice A' b.length c', .func (.func 92) #[] #[]] w fun e w' => e = .returned (.int .i64 (cmpR a b)) ∧ Lay w w' := by
  have hn' := Nat.le_trans hn' (Nat.le_refl _)
  unfold maxLen at hn hn'
  go_enter Tryz.func91, Tryz.ntmps91
  go_wp2
  go_loopw [13] (fun i wr => ∃ k : Nat, k ≤ a.length ∧ k ≤ b.length ∧ i = .int .i64 k ∧ Hid (a.take k = b.take k) ∧ Lay w wr) (fun i _ => a.length - (intOf i).toNat)
  case atStart => exact ⟨0, Nat.zero_le _, Nat.zero_le _, rfl, rfl, Lay.refl _⟩
  case round =>
    obtain ⟨k, hk, hkb, rfl, HT, hL⟩ := hrel
    have HL := Lib.hid hL
    have hz := hL.1.size
    clear hL
    by_cases hlt : k < a.length
    · obtain ⟨p, o, rfl, hblk, c0, c1, c2⟩ := (hr.below HL.out.1 HL.out.1.size).at_ hlt
      by_cases hlb : k < b.length
      · obtain ⟨p', o', rfl, hblk', d0, d1, d2⟩ := (hr'.below HL.out.1 HL.out.1.size).at_ hlb
        have HO := Lib.hid (And.intro (ha a[k] (List.getElem_mem hlt)) (hb b[k] (List.getElem_mem hlb)))
        have HE := Lib.hid (fun h : cmpW a[k] b[k] = 0 => cmpR_same hlt hlb HT.out h)
        have HN := Lib.hid (fun h : cmpW a[k] b[k] ≠ 0 => cmpR_at hlt hlb HT.out h)
        go_wp2_with fail
        refine (compareValues_lay a[k] b[k] _ HO.out.1 HO.out.2).mono ?_
        rintro e w1 ⟨rfl, hb1⟩
        have W1 := Lib.hid (((((HL.out.al _).al _).thn hb1)))
        clear hb1
        generalize cmpW a[k] b[k] = r at *
        by_cases hr0 : r = 0
        · subst hr0
          go_wp2_with fail
          go_roundw
          case rel => exact ⟨k + 1, by omega, by omega, by go_num, HE.out trivial, W1.out⟩
          case measure => simp [intOf]; omega
        · have hrb : (r != 0) = true := by simp [hr0]
          have HN2 := Lib.hid (HN.out hr0)
          clear hr0 HN HE
          go_wp2_with fail
          go_ret
          exact ⟨ret_int HN2.out.symm, W1.out⟩
      · have hge : b.length ≤ k := by omega
        have HM := Lib.hid (cmpR_more hlt (by omega) HT.out)
        clear hlb
        go_wp2_with fail
        go_ret
        exact ⟨ret_int HM.out.symm, HL.out.al _⟩
    · have hka : k = a.length := by omega
      subst hka
      have HM := Lib.hid (cmpR_end hkb (by have := HT.out; rwa [List.take_length] at this))
      by_cases hll : a.length < b.length
      · have HM2 : Hid (cmpR a b = -1) := by have := HM.out; rwa [if_pos hll] at this
        clear HM
        go_wp2_with fail
        go_ret
        exact ⟨ret_int HM2.out.symm, HL.out⟩
      · have HM2 : Hid (cmpR a b = 0) := by have := HM.out; rwa [if_neg hll] at this
        clear HM
        go_wp2_with fail
        go_ret
        exact ⟨ret_int HM2.out.symm, HL.out⟩

set_option maxHeartbeats 400000 in
theorem cmpRows_lay (A A' : Option Addr) (c c' : Nat) (a b : List V) (w : World) (hr : VReads w w.heap.size A a) (hr' : VReads w w.heap.size A' b) (ha : OkR a) (hb : OkR b) (hn : a.length ≤ maxLen) (hn' : b.length ≤ maxLen) :
    Calls Tryz.prog 61 #[.slice A a.length c, .slice A' b.length c'] w fun e w' => e = .returned (.int .i64 (cmpR a b)) ∧ Lay w w' := by
  have HC := Lib.hid (And.intro hn hn')
  go_enter Tryz.func61, Tryz.ntmps61
  clear hn hn'
  go_wp2_with fail
  refine (CompareFunc_lay A A' c c' a b _ hr hr' ha hb HC.out.1 HC.out.2).mono ?_
  rintro e w1 ⟨rfl, hb1⟩
  go_wp2_with fail
  go_ret
  exact ⟨rfl, hb1⟩
end Go.Proofs.YtapnnheggjahlaaGreatDoor
namespace Go.Proofs.YtapnnheggjahlaaGreatDoor
open Go.RowKit

/-- an address without a place within a cell -/
def Plain (A : Option Addr) : Prop := ∀ ad, A = some ad → ∃ b o, ad = ⟨b, o, none⟩
/-- the function value fv compares rows (those that P lets in) by c, in every later world -/
def IsOrd (P : List V → Prop) (c : List V → List V → Int) (fv : Value) (w : World) : Prop :=
  ∃ g cb, fv = .func (.func g) #[] cb ∧ (∀ args W, (callFunc g args).run Tryz.prog W = .ok (.enter g args) W) ∧
    ∀ w1, Below w.heap.size w w1 → ∀ A A' c1 c2 a b, VReads w1 w1.heap.size A a → VReads w1 w1.heap.size A' b → P a → P b →
      Calls Tryz.prog g (#[.slice A a.length c1, .slice A' b.length c2] ++ cb) w1 fun e w' => e = .returned (.int .i64 (c a b)) ∧ Lay w1 w'
theorem IsOrd.below {P : List V → Prop} {c : List V → List V → Int} {fv : Value} {w w' : World} (h : IsOrd P c fv w) (hb : Below w.heap.size w w') : IsOrd P c fv w' := by
  obtain ⟨g, cb, e, he, hc⟩ := h
  exact ⟨g, cb, e, he, fun w1 h1 => hc w1 (thn hb h1)⟩
/-- by the first that tells -/
def ordC : List (List V → List V → Int) → List V → List V → Int
  | [], _, _ => 0
  | c :: cs, a, b => lexC c (ordC cs) a b
theorem ordC_skip : ∀ (cs : List (List V → List V → Int)) (k : Nat) (a b : List V), (∀ j (h : j < cs.length), j < k → cs[j] a b = 0) → ordC cs a b = ordC (cs.drop k) a b
  | [], k, a, b, _ => by simp
  | c :: cs, 0, a, b, _ => rfl
  | c :: cs, k + 1, a, b, h => by
    have h0 := h 0 (by simp) (by omega)
    simp only [List.getElem_cons_zero] at h0
    simp only [ordC, lexC, h0, if_true, List.drop_succ_cons]
    exact ordC_skip cs k a b fun j hj hk => by have := h (j + 1) (by simpa using hj) (by omega); simpa using this
theorem ordC_at {cs : List (List V → List V → Int)} {k : Nat} {a b : List V} (hk : k < cs.length) (h : ∀ j (h : j < cs.length), j < k → cs[j] a b = 0) (hne : cs[k] a b ≠ 0) : ordC cs a b = cs[k] a b := by
  rw [ordC_skip cs k a b h, List.drop_eq_getElem_cons hk]
  simp [ordC, lexC, hne]
theorem ordC_end {cs : List (List V → List V → Int)} {a b : List V} (h : ∀ j (h : j < cs.length), j < cs.length → cs[j] a b = 0) : ordC cs a b = 0 := by
  rw [ordC_skip cs cs.length a b h, List.drop_length]; rfl
/-- a slice of orders -/
def Ords (P : List V → Prop) (w : World) (v : Value) (cs : List (List V → List V → Int)) : Prop :=
  ∃ ob oo c, v = .slice (some ⟨ob, oo, none⟩) cs.length c ∧ ob < w.heap.size ∧ ∀ j (h : j < cs.length), ∃ fv, w.cell? ⟨ob, oo + j, none⟩ = some fv ∧ IsOrd P cs[j] fv w
theorem Ords.below {P : List V → Prop} {w w' : World} {v : Value} {cs : List (List V → List V → Int)} (h : Ords P w v cs) (hb : Below w.heap.size w w') : Ords P w' v cs := by
  obtain ⟨ob, oo, c, e, hl, hc⟩ := h
  refine ⟨ob, oo, c, e, Nat.lt_of_lt_of_le hl hb.size, fun j hj => ?_⟩
  obtain ⟨fv, h1, h2⟩ := hc j hj
  exact ⟨fv, (hb.cell (p := ⟨ob, _, none⟩) hl).trans h1, h2.below hb⟩

set_option maxHeartbeats 1000000 in
theorem sorted1_lay (P : List V → Prop) (cs : List (List V → List V → Int)) (g : Nat) (vo : Value) (A A' : Option Addr) (c1 c2 : Nat) (a b : List V) (w : World)
    (hg : w.cell? ⟨g, 0, none⟩ = some vo) (ho : Ords P w vo cs) (hcs : cs.length ≤ 1000) (hr : VReads w w.heap.size A a) (hr' : VReads w w.heap.size A' b) (ha : P a) (hb : P b) :
    Calls Tryz.prog 95 #[.slice A a.length c1, .slice A' b.length c2, .pointer (some ⟨g, 0, none⟩)] w fun e w' => e = .returned (.int .i64 (ordC cs a b)) ∧ Lay w w' := by
  have HO := Lib.hid ho
  have HR := Lib.hid (And.intro hr hr')
  have HP := Lib.hid (And.intro ha hb)
  obtain ⟨ob, oo, c, rfl, hl, -⟩ := ho
  clear hr hr' ha hb
  go_enter Tryz.func95, Tryz.ntmps95
  go_wp2
  clear hg
  go_loopw [11] (fun i wr => ∃ k : Nat, k ≤ cs.length ∧ i = .int .i64 k ∧ Hid (∀ j (h : j < cs.length), j < k → cs[j] a b = 0) ∧ Lay w wr) (fun i _ => cs.length - (intOf i).toNat)
  case atStart => exact ⟨0, Nat.zero_le _, rfl, fun j _ h => absurd h (by omega), Lay.refl _⟩
  case round =>
    obtain ⟨k, hk, rfl, HZ, hL⟩ := hrel
    have HL := Lib.hid hL
    have hz := hL.1.size
    clear hL
    by_cases hlt : k < cs.length
    · obtain ⟨ob', oo', c', e', _, hcell⟩ := HO.out.below HL.out.1
      injection e' with e' _ e3
      subst e3
      injection e' with e'
      injection e' with e1 e2
      subst e1 e2
      obtain ⟨fv, h1, gf, cb, rfl, heg, hcall⟩ := hcell k hlt
      have HC := Lib.hid (hcall wr (Below.refl _ _) A A' c1 c2 a b (HR.out.1.below HL.out.1 HL.out.1.size) (HR.out.2.below HL.out.1 HL.out.1.size) HP.out.1 HP.out.2)
      have HN := Lib.hid (fun h : cs[k] a b ≠ 0 => ordC_at hlt HZ.out h)
      have HE := Lib.hid (fun h : cs[k] a b = 0 => (fun j (hj : j < cs.length) (hjk : j < k + 1) => (if e : j = k then by subst e; exact h else HZ.out j hj (by omega) : cs[j] a b = 0)))
      clear hcell hcall
      go_wp2_with fail
      refine HC.out.mono ?_
      rintro e w1 ⟨rfl, hb1⟩
      have W1 := Lib.hid (HL.out.thn hb1)
      clear hb1 HC
      generalize cs[k] a b = r at *
      by_cases hr0 : r = 0
      · have HE2 := Lib.hid (HE.out hr0)
        subst hr0
        clear HE HN
        go_wp2_with fail
        go_roundw
        case rel => exact ⟨k + 1, by omega, by go_num, HE2.out, W1.out⟩
        case measure => simp [intOf]; omega
      · have hrb : (r != 0) = true := by simp [hr0]
        have HN2 := Lib.hid (HN.out hr0)
        clear hr0 HN HE
        go_wp2_with fail
        go_ret
        exact ⟨ret_int HN2.out.symm, W1.out⟩
    · have hka : k = cs.length := by omega
      subst hka
      have HE := Lib.hid (ordC_end HZ.out)
      go_wp2_with fail
      go_ret
      exact ⟨ret_int HE.out.symm, HL.out⟩
theorem compare_isOrd (w : World) : IsOrd (fun r => OkR r ∧ r.length ≤ maxLen) cmpR (.func (.func 61) #[] #[]) w :=
  ⟨_, _, rfl, enters_of Tryz.func61 (by kernel_rfl) rfl, fun w1 _ A A' c1 c2 a b hr hr' ha hb => cmpRows_lay A A' c1 c2 a b w1 hr hr' ha.1 hb.1 ha.2 hb.2⟩
end Go.Proofs.YtapnnheggjahlaaGreatDoor
namespace Go.Proofs.YtapnnheggjahlaaGreatDoor
open Go.RowKit

/-- all but block g stands -/
def Far (g : Nat) (w W : World) : Prop := W.os = w.os ∧ W.tape = w.tape ∧ W.output = w.output ∧ w.heap.size ≤ W.heap.size ∧ ∀ k, k < w.heap.size → k ≠ g → W.heap[k]? = w.heap[k]?
theorem Far.below {g B : Nat} {w W : World} (h : Far g w W) (hB : B ≤ g) (hw : B ≤ w.heap.size) : Below B w W := ⟨h.1, h.2.1, h.2.2.1, h.2.2.2.1, fun k hk => h.2.2.2.2 k (by omega) (by omega)⟩
theorem Far.cell {g : Nat} {w W : World} (h : Far g w W) {b o : Nat} (hb : b < w.heap.size) (hg : b ≠ g) : W.cell? ⟨b, o, none⟩ = w.cell? ⟨b, o, none⟩ := by
  simp only [World.cell?, h.2.2.2.2 b hb hg]
theorem Far.sortWorld {α : Type} [Inhabited α] (enc : α → Value) (w : World) (g q : Nat) (d : Array α) (os : Array Obj) : Far g w (sortWorld enc w g 0 q d os) := by
  have hs : (Sort.putRow enc (Sort.ahead w q) g 0 d).heap.size = w.heap.size := by simp [Sort.putRow, Sort.mapBlock, Sort.ahead]
  refine ⟨rfl, rfl, rfl, ?_, fun k hk hg => ?_⟩
  · show w.heap.size ≤ (Sort.grow _ os).heap.size
    rw [Sort.size_grow, hs]
    exact Nat.le_add_right _ _
  · show (Sort.grow _ os).heap[k]? = _
    rw [Sort.heap_grow_old _ _ (by rw [hs]; exact hk)]
    simp [Sort.putRow, Sort.mapBlock, Sort.ahead, Array.getElem?_modify, Ne.symm hg]
theorem Blk.sortWorld {α : Type} [Inhabited α] (enc : α → Value) {w : World} {g : Nat} {T : TypeId} {cs : Array Value} (h : Blk w g T cs) (q : Nat) (d : Array α) (hd : d.size = cs.size) (os : Array Obj) : Blk (sortWorld enc w g 0 q d os) g T (d.map enc) := by
  unfold Blk
  have hs : (Sort.putRow enc (Sort.ahead w q) g 0 d).heap.size = w.heap.size := by simp [Sort.putRow, Sort.mapBlock, Sort.ahead]
  show (Sort.grow _ os).heap[g]? = _
  rw [Sort.heap_grow_old _ _ (by rw [hs]; exact h.lt)]
  unfold Blk at h
  simp only [Sort.putRow, Sort.mapBlock, Sort.ahead, Array.getElem?_modify, if_true, h, Option.map_some, Sort.onCells, Option.some.injEq, Obj.cells.injEq, and_true]
  apply Array.ext
  · simp [Sort.putCells, hd]
  · intro i h1 h2
    have hi : i < d.size := by simpa using h2
    simp [Sort.putCells, hi, getElem!_pos]

/-- a row in memory, that the sort of block g leaves alone -/
structure RV (P : List V → Prop) (g : Nat) (w : World) where
  v : Value
  r : List V
  A : Option Addr
  c : Nat
  e : v = .slice A r.length c
  reads : ∀ W, Far g w W → VReads W W.heap.size A r
  ok : P r
theorem oneCell_slice {v : Value} {A : Option Addr} {n c : Nat} (e : v = .slice A n c) : v.oneCell' = true := by subst e; rfl

theorem ltOf_SWO {α : Type} {c : α → α → Int} (h : WO c) : Sort.SWO (ltOf c) where
  irrefl x := by have := h.self x; simp [ltOf, this]
  trans x y z h1 h2 := by
    simp only [ltOf, decide_eq_true_eq] at *
    exact h.lt_le h1 (by omega)
  ntrans x y z h1 h2 := by
    simp only [ltOf, decide_eq_false_iff_not, Int.not_lt] at *
    exact h.ge h1 h2

set_option maxHeartbeats 1000000 in
theorem SortFunc_rows (P : List V → Prop) (cs : List (List V → List V → Int)) (hWO : WO (ordC cs)) (he : ∀ a b, ordC cs a b = 0 → a = b) (hcs : cs.length ≤ 1000) (w0 w : World) (g gb cap : Nat) (T : TypeId) (vo : Value)
    (hw : Below w0.heap.size w0 w) (hg0 : w0.heap.size ≤ g) (hgb : w.cell? ⟨gb, 0, none⟩ = some vo) (hgg : gb ≠ g) (ho : Ords P w0 vo cs)
    (x0 : RV P g w) (d : Array (RV P g w)) (cells : Array Value) (hblk : Blk w g T cells) (hd : cells = d.map (·.v)) (hsz : d.size ≤ 1000000) :
    Calls Tryz.prog 94 #[.slice (some ⟨g, 0, none⟩) d.size cap, .func (.func 95) #[] #[.pointer (some ⟨gb, 0, none⟩)]] w fun e w' =>
      e = .returned (.tuple #[]) ∧ ∃ d' : Array (RV P g w), d'.size = d.size ∧ d'.toList.Perm d.toList ∧ d'.toList.map (·.r) = srtC (ordC cs) (d.toList.map (·.r)) ∧ Blk w' g T (d'.map (·.v)) ∧ Far g w w' := by
  letI : Inhabited (RV P g w) := ⟨x0⟩
  have hgl : gb < w.heap.size := World.block_lt_of_cell? w _ hgb
  refine (Any.slices_SortFunc Tryz.sortR (fun x : RV P g w => x.v) (fun x => oneCell_slice x.e) (fun x y => ordC cs x.r y.r) (ltOf_SWO (hWO.on fun x : RV P g w => x.r)) 95 #[.pointer (some ⟨gb, 0, none⟩)] g 0 cap d w (enters_of Tryz.func95 (by kernel_rfl) rfl) ?_ ?_ hblk.lt (by omega)).mono ?_
  · intro m os dk _ x y
    have hF := Far.sortWorld (fun x : RV P g w => x.v) w g m dk os
    have hb : Below w0.heap.size w0 (sortWorld (fun x : RV P g w => x.v) w g 0 m dk os) := hw.trans (hF.below hg0 hw.size)
    have hx := x.e
    have hy := y.e
    show Calls _ _ #[x.v, y.v, .pointer (some ⟨gb, 0, none⟩)] _ _
    rw [hx, hy]
    exact (sorted1_lay P cs gb vo x.A y.A x.c y.c x.r y.r _ (by rw [hF.cell hgl hgg]; exact hgb) (ho.below hb) hcs (x.reads _ hF) (y.reads _ hF) x.ok y.ok).mono fun _ _ ⟨h1, h2⟩ => ⟨h1, h2.grow⟩
  · intro j hj
    refine ⟨?_, ?_⟩
    · rw [Nat.zero_add, hblk.cell j, hd, getElem!_pos d j hj]
      simp [hj]
    · exact hblk.frozen _
  · rintro e w' ⟨rfl, d', n, os, hp, hs, rfl⟩
    have h1 : d'.toList.Perm d.toList := by
      have := hp.2.2
      have e1 : d'.extract 0 d.size = d' := by rw [← hp.1]; simp
      have e2 : d.extract 0 d.size = d := by simp
      rwa [e1, e2] at this
    refine ⟨rfl, d', hp.1, h1, ?_, hblk.sortWorld _ n d' (by rw [hd, hp.1]; simp) os, Far.sortWorld _ w g n d' os⟩
    refine srtC_only hWO he (h1.map _) ?_
    rw [List.pairwise_map, List.pairwise_iff_getElem]
    intro i j hi hj hij
    have := hs i j (Nat.zero_le _) hij (by rw [← hp.1]; simpa using hj)
    rw [getElem!_pos d' i (by simpa using hi), getElem!_pos d' j (by simpa using hj)] at this
    simp only [ltOf, decide_eq_false_iff_not, Int.not_lt] at this
    rw [leC_iff]
    have hr := hWO.rev d'[i].r d'[j].r
    simp only [Array.getElem_toList]
    omega
end Go.Proofs.YtapnnheggjahlaaGreatDoor
namespace Go.Proofs.YtapnnheggjahlaaGreatDoor
open Go.RowKit

set_option maxRecDepth 100000 in
theorem Clone_any (b o c : Nat) (l : List V) (w : World) (hr : VReads w w.heap.size (some ⟨b, o, none⟩) l) (hn : l.length ≤ 1000000) :
    Calls Tryz.prog 93 #[.slice (some ⟨b, o, none⟩) l.length c] w fun e w' => ∃ v', e = .returned v' ∧ w'.ownsRow w.heap.size 78 3 v' l.length (vcells l) ∧ v' ≠ .slice none 0 0 ∧ Below w.heap.size w w' := by
  obtain ⟨i0, hi, hz0, hz1, hz2⟩ := info_parts infoV
  refine AnyE.slices_Clone Tryz.cloneV i0 (.agg #[.int .i64 0, .int .i64 0, .string ⟨#[]⟩]) 3 32 hi hz0 hz1 hz2 rfl (by decide) Tryz.sizeOf78 b o l.length c (vcells l) w (vcells_len l) (by unfold maxLen; omega) (by omega) (fun j u hj => ?_) (vcells_one l)
  have hjl : j < l.length * 3 := by
    rcases Nat.lt_or_ge j (l.length * 3) with h | h
    · exact h
    · rw [List.getElem?_eq_none (by rw [vcells_len]; omega)] at hj; cases hj
  obtain ⟨ad, ha, _, hc⟩ := hr.reads.2 (by omega : 0 < l.length)
  injection ha with ha
  subst ha
  have := hc j u hj
  rw [addN] at this
  exact this
theorem Clone_nil (n c : Nat) (w : World) :
    Calls Tryz.prog 93 #[.slice none n c] w fun e w' => e = .returned (.slice none 0 0) ∧ w' = w :=
  AnyE.slices_Clone_nil Tryz.cloneV n c w

theorem own_weaker {w : World} {base base' : Nat} {e : TypeId} {size n : Nat} {v : Value} {xs : List Value} (h : w.ownsRow base e size v n xs) (hb : base' ≤ base) : w.ownsRow base' e size v n xs :=
  ⟨h.1, h.2.imp id fun ⟨g, cap, cur, a, b, c⟩ => ⟨g, cap, cur, a, Nat.le_trans hb b, c⟩⟩
/-- v is a row of the call's own (from block base on), of these values -/
abbrev OwnR (w : World) (base : Nat) (v : Value) (r : List V) : Prop := w.ownsRow base 78 3 v r.length (vcells r)
/-- a slice of rows that came in -/
def LReads (w : World) (B : Nat) (A : Option Addr) (L : List (List V)) : Prop :=
  0 < L.length → ∃ b o, A = some ⟨b, o, none⟩ ∧ b < B ∧ ∀ i r, L[i]? = some r → ∃ Ar c, w.cell? ⟨b, o + i, none⟩ = some (.slice Ar r.length c) ∧ Plain Ar ∧ VReads w B Ar r
theorem LReads.below {w w' : World} {B B' : Nat} {A : Option Addr} {L : List (List V)} (h : LReads w B A L) (hb : Below B w w') (hB : B ≤ B') : LReads w' B' A L := fun h0 => by
  obtain ⟨b, o, rfl, hblk, hc⟩ := h h0
  refine ⟨b, o, rfl, by omega, fun i r hi => ?_⟩
  obtain ⟨Ar, c, h1, h2, h3⟩ := hc i r hi
  exact ⟨Ar, c, (hb.cell (p := ⟨b, _, none⟩) hblk).trans h1, h2, h3.below hb hB⟩
theorem LReads.at_ {w : World} {B : Nat} {A : Option Addr} {L : List (List V)} (h : LReads w B A L) {i : Nat} (hi : i < L.length) : ∃ b o Ar c, A = some ⟨b, o, none⟩ ∧ b < B ∧ w.cell? ⟨b, o + i, none⟩ = some (.slice Ar L[i].length c) ∧ Plain Ar ∧ VReads w B Ar L[i] := by
  obtain ⟨b, o, rfl, hblk, hc⟩ := h (by omega)
  obtain ⟨Ar, c, h1, h2, h3⟩ := hc i _ (List.getElem?_eq_getElem hi)
  exact ⟨b, o, Ar, c, rfl, hblk, h1, h2, h3⟩
theorem Clone_row (A : Option Addr) (c : Nat) (l : List V) (w : World) (hr : VReads w w.heap.size A l) (hA : Plain A) (hn : l.length ≤ 1000000) :
    Calls Tryz.prog 93 #[.slice A l.length c] w fun e w' => ∃ v', e = .returned v' ∧ OwnR w' w.heap.size v' l ∧ Below w.heap.size w w' := by
  cases A with
  | none =>
    have hl : l = [] := by
      cases l with
      | nil => rfl
      | cons x r => obtain ⟨b, o, h, _⟩ := hr (by simp); cases h
    subst hl
    refine (Clone_nil _ _ _).mono ?_
    rintro e w' ⟨rfl, rfl⟩
    exact ⟨_, rfl, World.ownsRow_nil _ _ _ _, Below.refl _ _⟩
  | some ad =>
    obtain ⟨b, o, rfl⟩ := hA ad rfl
    refine (Clone_any b o c l w hr hn).mono ?_
    rintro e w' ⟨v', rfl, h1, _, h2⟩
    exact ⟨v', rfl, h1, h2⟩
/-- rows of the call's own -/
def OwnRs (w : World) (base : Nat) (vs : List Value) (S : List (List V)) : Prop := vs.length = S.length ∧ ∀ (i : Nat) (v : Value) (r : List V), vs[i]? = some v → S[i]? = some r → OwnR w base v r
theorem OwnRs.nil (w : World) (base : Nat) : OwnRs w base [] [] := ⟨rfl, fun i v r h => by simp at h⟩
theorem OwnRs.below {w w' : World} {base : Nat} {vs : List Value} {S : List (List V)} (h : OwnRs w base vs S) (hb : Below w.heap.size w w') : OwnRs w' base vs S :=
  ⟨h.1, fun i v r hv hr => own_below (h.2 i v r hv hr) hb⟩
theorem OwnRs.weaker {w : World} {base base' : Nat} {vs : List Value} {S : List (List V)} (h : OwnRs w base vs S) (hb : base' ≤ base) : OwnRs w base' vs S :=
  ⟨h.1, fun i v r hv hr => own_weaker (h.2 i v r hv hr) hb⟩
theorem OwnRs.snoc {w : World} {base : Nat} {vs : List Value} {S : List (List V)} {v : Value} {r : List V} (h : OwnRs w base vs S) (hv : OwnR w base v r) : OwnRs w base (vs ++ [v]) (S ++ [r]) := by
  refine ⟨by simp [h.1], fun i x y hx hy => ?_⟩
  rcases Nat.lt_trichotomy i vs.length with hi | hi | hi
  · rw [List.getElem?_append_left hi] at hx
    rw [List.getElem?_append_left (by rw [← h.1]; exact hi)] at hy
    exact h.2 i x y hx hy
  · subst hi
    rw [List.getElem?_append_right (Nat.le_refl _)] at hx
    rw [h.1, List.getElem?_append_right (Nat.le_refl _)] at hy
    simp at hx hy
    subst hx hy
    exact hv
  · rw [List.getElem?_eq_none (by simp; omega)] at hx
    cases hx
theorem OwnR.far {w W : World} {g base : Nat} {v : Value} {r : List V} (h : OwnR w base v r) (hg : g < base) (hF : Far g w W) : OwnR W base v r := by
  refine ⟨h.1, h.2.imp id fun ⟨b, cap, cur, e, hb, hh, x⟩ => ⟨b, cap, cur, e, hb, ?_, x⟩⟩
  have hlt : b < w.heap.size := by
    rcases Nat.lt_or_ge b w.heap.size with h1 | h1
    · exact h1
    · rw [Array.getElem?_eq_none h1] at hh; cases hh
  exact (hF.2.2.2.2 b hlt (by omega)).trans hh
theorem rv_of (P : List V → Prop) (g : Nat) (w : World) (base : Nat) (hg : g < base) : ∀ (vs : List Value) (L : List (List V)), OwnRs w base vs L → (∀ r ∈ L, P r) → ∃ d : List (RV P g w), d.map (·.v) = vs ∧ d.map (·.r) = L
  | [], [], _, _ => ⟨[], rfl, rfl⟩
  | [], _ :: _, h, _ => by have := h.1; simp at this
  | _ :: _, [], h, _ => by have := h.1; simp at this
  | v :: vs, r :: L, h, hP => by
    obtain ⟨d, h1, h2⟩ := rv_of P g w base hg vs L ⟨by have := h.1; simpa using this, fun i x y hx hy => h.2 (i + 1) x y (by simpa using hx) (by simpa using hy)⟩ (fun r hr => hP r (List.mem_cons_of_mem _ hr))
    have h0 := h.2 0 v r rfl rfl
    obtain ⟨A, c, e, _, _, _, _⟩ := own_reads h0
    refine ⟨⟨v, r, A, c, e, fun W hF => ?_, hP r (List.mem_cons_self ..)⟩ :: d, by simp [h1], by simp [h2]⟩
    obtain ⟨A', c', e', _, _, hr, _⟩ := own_reads (h0.far hg hF)
    rw [e] at e'
    injection e' with e1
    subst e1
    exact hr
theorem own_of_perm {P : List V → Prop} {g : Nat} {w : World} {base : Nat} {vs : List Value} {L : List (List V)} {d d' : List (RV P g w)} (h : OwnRs w base vs L) (h1 : d.map (·.v) = vs) (h2 : d.map (·.r) = L) (hp : d'.Perm d) : OwnRs w base (d'.map (·.v)) (d'.map (·.r)) := by
  refine ⟨by simp, fun i v r hv hr => ?_⟩
  simp only [List.getElem?_map, Option.map_eq_some_iff] at hv hr
  obtain ⟨x, hx, rfl⟩ := hv
  obtain ⟨y, hy, rfl⟩ := hr
  rw [hx] at hy
  injection hy with hy
  subst hy
  have hm : x ∈ d := hp.mem_iff.1 (List.mem_of_getElem? hx)
  obtain ⟨j, hj, hxj⟩ := List.getElem_of_mem hm
  subst h1 h2
  exact h.2 j x.v x.r (by simp [hj, hxj]) (by simp [hj, hxj])
end Go.Proofs.YtapnnheggjahlaaGreatDoor
namespace Go.Proofs.YtapnnheggjahlaaGreatDoor
open Go.RowKit

theorem fill_set {vs : List Value} {n k : Nat} (z v : Value) (hk : vs.length = k) (h : k < n) : ((vs ++ List.replicate (n - vs.length) z).toArray.setIfInBounds k v) = ((vs ++ [v]) ++ List.replicate (n - (vs ++ [v]).length) z).toArray := by
  subst hk
  have e : n - vs.length = (n - (vs ++ [v]).length) + 1 := by simp; omega
  rw [e, List.replicate_succ]
  simp [List.setIfInBounds_toArray]

theorem infoR : (Tryz.prog.info? 34).map (fun i => (i.zero, i.size, i.bytes)) = some (some (.slice none 0 0), 1, 24) := by kernel_rfl
theorem madeR (n : Nat) : madeCells (Value.slice none 0 0).cells (n * 1) = (List.replicate n (Value.slice none 0 0)).toArray := by
  apply Array.ext
  · simp [madeCells]
  · intro i h1 h2
    simp [madeCells, Value.cells, Nat.mod_one]
theorem makeR (n : Nat) (hn : n ≤ 20000) (W : World) : (Instr.makeSlice 23 (.int .i64 (n : Int)) (.int .i64 (n : Int))).run Tryz.prog W = .ok (.slice (some ⟨W.heap.size, 0, none⟩) n n) (W.alloc (.cells (List.replicate n (Value.slice none 0 0)).toArray 34)) := by
  obtain ⟨i0, hi, hz0, hz1, hz2⟩ := info_parts infoR
  have h := run_make (P := Tryz.prog) (w := W) 23 34 i0 (.slice none 0 0) Tryz.underlying23 hi hz0 .i64 .i64 (n : Int) (n : Int) (by omega) (Int.le_refl _) (by rw [hz2]; omega) (by omega)
  rw [hz1] at h
  simp only [Int.toNat_natCast] at h
  rw [madeR] at h
  exact h

set_option maxHeartbeats 1000000 in
theorem sorted_any (P : List V → Prop) (cs : List (List V → List V → Int)) (hWO : WO (ordC cs)) (he : ∀ a b, ordC cs a b = 0 → a = b) (hcs : cs.length ≤ 1000) (A : Option Addr) (c : Nat) (L : List (List V)) (vo : Value) (w : World)
    (hr : LReads w w.heap.size A L) (hP : ∀ r ∈ L, P r) (hl : ∀ r ∈ L, r.length ≤ 1000000) (hL : L.length ≤ 20000) (ho : Ords P w vo cs) (hin : L = [] → P []) :
    Calls Tryz.prog 62 #[.slice A L.length c, vo] w fun e w' => ∃ g vs, e = .returned (.slice (some ⟨g, 0, none⟩) L.length L.length) ∧ w.heap.size ≤ g ∧ Blk w' g 34 vs.toArray ∧ OwnRs w' w.heap.size vs (srtC (ordC cs) L) ∧ Below w.heap.size w w' := by
  have HP := Lib.hid (And.intro hP (And.intro hl hin))
  have HO := Lib.hid ho
  have HR := Lib.hid hr
  have HW := Lib.hid (And.intro hWO he)
  clear hP hl hin ho hr hWO he
  obtain ⟨ob, oo, oc, rfl, -⟩ := HO.out
  have hn0 : ¬ (L.length : Int) < 0 := by omega
  have hmk := makeR L.length hL
  go_enter Tryz.func62, Tryz.ntmps62
  go_wp2
  clear hmk hn0
  go_loopw [13] (fun i wr => ∃ (k : Nat) (vs : List Value), k ≤ L.length ∧ i = .int .i64 k ∧ Hid (vs.length = k ∧ Blk wr (w.heap.size + 1) 34 (vs ++ List.replicate (L.length - vs.length) (Value.slice none 0 0)).toArray ∧ OwnRs wr (w.heap.size + 1 + 1) vs (L.take k) ∧ wr.cell? ⟨w.heap.size, 0, none⟩ = some (.slice (some ⟨ob, oo, none⟩) cs.length oc) ∧ Below w.heap.size w wr ∧ w.heap.size + 1 + 1 ≤ wr.heap.size)) (fun i _ => L.length - (intOf i).toNat)
  case atStart =>
    refine ⟨0, [], Nat.zero_le _, rfl, rfl, ?_, OwnRs.nil _ _, ?_, al (al (Below.refl _ _) _) _, by simp⟩
    · have h := Blk.new (w.alloc (.cells #[.slice (some ⟨ob, oo, none⟩) cs.length oc] 131)) 34 (List.replicate L.length (Value.slice none 0 0)).toArray
      rw [show (w.alloc (.cells #[.slice (some ⟨ob, oo, none⟩) cs.length oc] 131)).heap.size = w.heap.size + 1 by simp] at h
      exact h
    · have h := (Blk.new w 131 #[.slice (some ⟨ob, oo, none⟩) cs.length oc]).alloc (.cells (List.replicate L.length (Value.slice none 0 0)).toArray 34)
      exact h.cell 0
  case round =>
    obtain ⟨k, vs, hk, rfl, HI⟩ := hrel
    by_cases hlt : k < L.length
    · obtain ⟨hvl, hB, hOw, hc0, hbw, hsz⟩ := HI.out
      obtain ⟨b, o, Ar, cr, rfl, hblk, hcell, hpl, hv⟩ := (HR.out.below hbw hbw.size).at_ hlt
      have hbg : Hid (b < w.heap.size) := World.block_lt_of_cell? w _ (HR.out.at_ hlt).choose_spec.choose_spec.choose_spec.choose_spec.2.2.1 |> fun _ => by
        obtain ⟨b2, o2, Ar2, c2, e2, hb2, _⟩ := HR.out.at_ hlt
        injection e2 with e2; injection e2 with e2; subst e2; exact hb2
      have HV := Lib.hid (And.intro hv (And.intro hpl (HP.out.2.1 L[k] (List.getElem_mem hlt))))
      clear hvl hB hOw hc0 hbw hv hpl
      go_wp2_with fail
      refine (Clone_row Ar cr L[k] _ HV.out.1 HV.out.2.1 HV.out.2.2).mono ?_
      rintro e w1 ⟨v', rfl, hown, hb1⟩
      obtain ⟨A6, c6, rfl, -⟩ := own_reads hown
      obtain ⟨hvl, hB, hOw, hc0, hbw, -⟩ := HI.out
      have hB1 := hB.below hb1 hB.lt
      have d0 : w1.cell? ⟨w.heap.size + 1, k, none⟩ = some (.slice none 0 0) := by
        rw [hB1.cell k]
        simp [hvl, show 0 < L.length - k by omega]
      have d1 : w1.frozen? ⟨w.heap.size + 1, k, none⟩ = false := hB1.frozen k
      have hfs := fill_set (Value.slice none 0 0) (Value.slice A6 L[k].length c6) hvl hlt
      have hB2 := hB1.set_ k (.slice A6 L[k].length c6)
      rw [hfs] at hB2
      have HN : Hid ((vs ++ [(Value.slice A6 L[k].length c6)]).length = k + 1 ∧ Blk (w1.setCell ⟨w.heap.size + 1, k, none⟩ (.slice A6 L[k].length c6)) (w.heap.size + 1) 34 ((vs ++ [(Value.slice A6 L[k].length c6)]) ++ List.replicate (L.length - (vs ++ [(Value.slice A6 L[k].length c6)]).length) (Value.slice none 0 0)).toArray ∧ OwnRs (w1.setCell ⟨w.heap.size + 1, k, none⟩ (.slice A6 L[k].length c6)) (w.heap.size + 1 + 1) (vs ++ [(Value.slice A6 L[k].length c6)]) (L.take (k + 1)) ∧ (w1.setCell ⟨w.heap.size + 1, k, none⟩ (.slice A6 L[k].length c6)).cell? ⟨w.heap.size, 0, none⟩ = some (.slice (some ⟨ob, oo, none⟩) cs.length oc) ∧ Below w.heap.size w (w1.setCell ⟨w.heap.size + 1, k, none⟩ (.slice A6 L[k].length c6)) ∧ w.heap.size + 1 + 1 ≤ (w1.setCell ⟨w.heap.size + 1, k, none⟩ (.slice A6 L[k].length c6)).heap.size) := by
        have hF : Far (w.heap.size + 1) w1 (w1.setCell ⟨w.heap.size + 1, k, none⟩ (.slice A6 L[k].length c6)) := ⟨rfl, rfl, rfl, by simp [World.setCell], fun j _ hj => Below.heap_setCell _ _ _ _ (by simpa using hj)⟩
        refine ⟨by simp [hvl], hB2, ?_, ?_, (thn hbw hb1).setCell (p := ⟨w.heap.size + 1, k, none⟩) (by simp) _, Nat.le_trans hsz (Nat.le_trans hb1.size (by simp [World.setCell]))⟩
        · rw [List.take_succ_eq_append_getElem hlt]
          have h1 := (hOw.below hb1).snoc (own_weaker hown hsz)
          exact ⟨h1.1, fun i x y hx hy => (h1.2 i x y hx hy).far (by omega) hF⟩
        · rw [hF.cell (by have := hb1.size; omega) (by omega), hb1.cell (p := ⟨w.heap.size, 0, none⟩) (show w.heap.size < wr.heap.size by omega)]
          exact hc0
      clear hB2 hfs hB1 hvl hB hOw hc0 hbw hown hb1 HI HV
      go_wp2_with fail
      go_roundw
      case rel => exact ⟨k + 1, vs ++ [(Value.slice A6 L[k].length c6)], by omega, by go_num, HN⟩
      case measure => simp [intOf]; omega
    · have hkn : k = L.length := by omega
      subst hkn
      obtain ⟨hvl, hB, hOw, hc0, hbw, hsz⟩ := HI.out
      rw [List.take_length] at hOw
      have hB : Blk wr (w.heap.size + 1) 34 vs.toArray := by simpa [hvl] using hB
      obtain ⟨d, hd1, hd2⟩ := rv_of P (w.heap.size + 1) wr (w.heap.size + 1 + 1) (by omega) vs L hOw HP.out.1
      have hdl : d.length = L.length := by rw [← hd2]; simp
      have x0 : RV P (w.heap.size + 1) wr := by
        cases d with
        | nil => exact ⟨.slice none 0 0, [], none, 0, rfl, fun W _ h => absurd h (by simp), HP.out.2.2 (by rw [← hd2]; rfl)⟩
        | cons x _ => exact x
      have HS := Lib.hid (SortFunc_rows P cs HW.out.1 HW.out.2 hcs w wr (w.heap.size + 1) w.heap.size L.length 34 _ hbw (by omega) hc0 (by omega) HO.out x0 d.toArray vs.toArray hB (by simp [hd1]) (by simp; omega))
      rw [show d.toArray.size = L.length by simpa using hdl] at HS
      have HX := Lib.hid (And.intro hOw (And.intro hd1 (And.intro hd2 (And.intro hbw hsz))))
      clear hvl hB hOw hc0 hbw hd1 hd2 hdl HI
      go_wp2_with fail
      refine HS.out.mono ?_
      rintro e w1 ⟨rfl, d', hs, hp, hm, hB1, hF⟩
      obtain ⟨hOw, hd1, hd2, hbw, hsz⟩ := HX.out
      have HR1 : Hid (∃ g vs, Ending.returned (.slice (some ⟨w.heap.size + 1, 0, none⟩) L.length L.length) = .returned (.slice (some ⟨g, 0, none⟩) L.length L.length) ∧ w.heap.size ≤ g ∧ Blk w1 g 34 vs.toArray ∧ OwnRs w1 w.heap.size vs (srtC (ordC cs) L) ∧ Below w.heap.size w w1) := by
        refine ⟨w.heap.size + 1, d'.toList.map (·.v), rfl, by omega, by rw [show (d'.toList.map (·.v)).toArray = d'.map (·.v) from Array.ext' (by simp)]; exact hB1, ?_, hbw.trans (hF.below (by omega) hbw.size)⟩
        have h1 := own_of_perm hOw hd1 hd2 (by simpa using hp)
        rw [hm] at h1
        simp only [hd2] at h1
        exact OwnRs.weaker ⟨h1.1, fun i x y hx hy => (h1.2 i x y hx hy).far (by omega) hF⟩ (by omega)
      clear hs hp hm hB1 hF hOw hd1 hd2 hbw hsz HX HS
      go_wp2_with fail
      go_ret
      exact HR1
end Go.Proofs.YtapnnheggjahlaaGreatDoor
