/-
  KeyO: KEYS AND PLACES OF ANY NUMBERS: checkKeys and Ordered whatever came in; the reference's Places, and its Ordered of no rows.
  OpR: THE ARGUMENTS OPENED: a list of rows.
  Plc: CONTRACTS: the reference's Places; its Ordered of no rows; keys and numbers that came in.
  Fre: AN APPEND ONTO AN EMPTY SLICE WITHOUT ROOM: what comes lies in new memory, and nothing else turns.
  Frm: COLUMNS: CheckCols, Check, the reference's Cols, Fits and AllFit; the law's CutCols.
-/
import Derived.Test.YtapnnheggjahlaaGreatDoorLRO
import Derived.Test.YtapnnheggjahlaaGreatDoorGE
import Derived.Test.YtapnnheggjahlaaGreatDoorLngR
namespace Go.Proofs.YtapnnheggjahlaaGreatDoor
open Go.RowKit

/-- the cells of keys -/
def kcellsI (ks : List (Int × Bool)) : List Value := ks.flatMap fun k => [.int .i64 k.1, .bool k.2]
theorem kcellsI_len (ks : List (Int × Bool)) : (kcellsI ks).length = ks.length * 2 := by
  induction ks with
  | nil => rfl
  | cons k ks ih =>
    have : (kcellsI (k :: ks)).length = 2 + (kcellsI ks).length := by simp [kcellsI]; omega
    rw [this, ih, List.length_cons]
    omega
theorem kcellsI_at : ∀ (ks : List (Int × Bool)) (i : Nat) (k : Int × Bool), ks[i]? = some k → (kcellsI ks)[i * 2]? = some (.int .i64 k.1) ∧ (kcellsI ks)[i * 2 + 1]? = some (.bool k.2)
  | [], i, k, h => by simp at h
  | q :: ks, 0, k, h => by
    simp at h
    subst h
    simp [kcellsI]
  | q :: ks, i + 1, k, h => by
    have := kcellsI_at ks i k (by simpa using h)
    have e : kcellsI (q :: ks) = [.int .i64 q.1, .bool q.2] ++ kcellsI ks := by simp [kcellsI]
    rw [e, List.getElem?_append_right (by simp; omega), List.getElem?_append_right (by simp; omega)]
    simp only [List.length_cons, List.length_nil]
    rw [show (i + 1) * 2 - (0 + 1 + 1) = i * 2 by omega, show (i + 1) * 2 + 1 - (0 + 1 + 1) = i * 2 + 1 by omega]
    exact this
theorem kcellsI_one (ks : List (Int × Bool)) : ∀ u ∈ kcellsI ks, u.oneCell' = true := fun u hu => by
  unfold kcellsI at hu
  obtain ⟨k, _, hu⟩ := List.mem_flatMap.1 hu
  simp only [List.mem_cons, List.not_mem_nil, or_false] at hu
  rcases hu with rfl | rfl <;> rfl
theorem half (j : Nat) : ∃ i, j = i * 2 ∨ j = i * 2 + 1 := ⟨j / 2, by omega⟩
theorem KReads.reads {w : World} {B : Nat} {A : Option Addr} {ks : List (Int × Bool)} (h : KReads w B A ks) : Reads w B 2 A ks.length (kcellsI ks) :=
  ⟨kcellsI_len ks, fun h0 => by
    obtain ⟨b, o, rfl, hb, hc⟩ := h h0
    refine ⟨_, rfl, hb, fun j u hj => ?_⟩
    have hjl : j < ks.length * 2 := by rw [← kcellsI_len]; exact (List.getElem?_eq_some_iff.1 hj).1
    obtain ⟨i, hi⟩ := half j
    have hil : i < ks.length := by omega
    have hk := List.getElem?_eq_getElem hil
    have h1 := hc i _ hk
    have h2 := kcellsI_at ks i _ hk
    rw [addN]
    rcases hi with rfl | rfl
    · rw [h2.1] at hj
      injection hj with hj
      rw [h1.1, hj]
    · rw [h2.2] at hj
      injection hj with hj
      rw [← Nat.add_assoc, h1.2, hj]⟩
theorem KReads.take {w : World} {B : Nat} {A : Option Addr} {ks : List (Int × Bool)} (h : KReads w B A ks) (m : Nat) : KReads w B A (ks.take m) := fun h0 => by
  obtain ⟨b, o, e, hb, hc⟩ := h (by rw [List.length_take] at h0; omega)
  refine ⟨b, o, e, hb, fun i k hk => hc i k ?_⟩
  rw [List.getElem?_take] at hk
  split at hk
  · exact hk
  · cases hk
theorem KReads.pre {w : World} {B : Nat} {A : Option Addr} {a b : List (Int × Bool)} (h : KReads w B A (a ++ b)) : KReads w B A a := fun h0 => by
  obtain ⟨p, o, e, hb, hc⟩ := h (by simp; omega)
  exact ⟨p, o, e, hb, fun i k hk => hc i k (by rw [List.getElem?_append_left (List.getElem?_eq_some_iff.1 hk).1]; exact hk)⟩
theorem own_kreadsI {w : World} {base : Nat} {e : TypeId} {v : Value} {ks : List (Int × Bool)} (h : w.ownsRow base e 2 v ks.length (kcellsI ks)) :
    ∃ (A : Option Addr) (c : Nat), v = .slice A ks.length c ∧ KReads w w.heap.size A ks ∧ ks.length ≤ c := by
  obtain ⟨A, c, rfl⟩ := own_slice h
  have hc := own_cap h
  have hr := Reads.of_own h
  refine ⟨A, c, rfl, fun h0 => ?_, hc⟩
  obtain ⟨ad, rfl, hb, hcell⟩ := hr.2 h0
  obtain ⟨b, o, sp⟩ := ad
  have k0 := kcellsI_at ks 0 _ (List.getElem?_eq_getElem h0)
  have hsp : sp = none := by
    have := hcell _ _ k0.1
    simpa [Addr.add] using World.cell?_spot this
  subst hsp
  refine ⟨b, o, rfl, hb, fun i k hk => ?_⟩
  have k1 := kcellsI_at ks i k hk
  have c1 := hcell _ _ k1.1
  have c2 := hcell _ _ k1.2
  rw [addN] at c1 c2
  exact ⟨c1, by rw [← Nat.add_assoc] at c2; exact c2⟩
/-- numbers, row by row -/
def icells (ps : List Int) : List Value := ps.map (.int .i64)
theorem icells_one (ps : List Int) : ∀ u ∈ icells ps, u.oneCell' = true := fun u hu => by
  obtain ⟨k, _, rfl⟩ := List.mem_map.1 hu
  rfl
def IReads (w : World) (B : Nat) (A : Option Addr) (ps : List Int) : Prop :=
  0 < ps.length → ∃ b o, A = some ⟨b, o, none⟩ ∧ b < B ∧ ∀ (i : Nat) (p : Int), ps[i]? = some p → w.cell? ⟨b, o + i, none⟩ = some (.int .i64 p)
theorem IReads.below {w w' : World} {B B' : Nat} {A : Option Addr} {ps : List Int} (h : IReads w B A ps) (hb : Below B w w') (hB : B ≤ B') : IReads w' B' A ps := fun h0 => by
  obtain ⟨b, o, e, hb', hc⟩ := h h0
  exact ⟨b, o, e, Nat.lt_of_lt_of_le hb' hB, fun i p hp => (hb.cell (p := ⟨b, _, none⟩) hb').trans (hc i p hp)⟩
theorem IReads.at_ {w : World} {B : Nat} {A : Option Addr} {ps : List Int} (h : IReads w B A ps) {i : Nat} (hi : i < ps.length) : ∃ b o, A = some ⟨b, o, none⟩ ∧ b < B ∧ w.cell? ⟨b, o + i, none⟩ = some (.int .i64 ps[i]) := by
  obtain ⟨b, o, e, hb, hc⟩ := h (by omega)
  exact ⟨b, o, e, hb, hc i _ (List.getElem?_eq_getElem hi)⟩
theorem IReads.take {w : World} {B : Nat} {A : Option Addr} {ps : List Int} (h : IReads w B A ps) (m : Nat) : IReads w B A (ps.take m) := fun h0 => by
  obtain ⟨b, o, e, hb, hc⟩ := h (by rw [List.length_take] at h0; omega)
  refine ⟨b, o, e, hb, fun i k hk => hc i k ?_⟩
  rw [List.getElem?_take] at hk
  split at hk
  · exact hk
  · cases hk
theorem IReads.reads {w : World} {B : Nat} {A : Option Addr} {ps : List Int} (h : IReads w B A ps) : Reads w B 1 A ps.length (icells ps) :=
  ⟨by simp [icells], fun h0 => by
    obtain ⟨b, o, rfl, hb, hc⟩ := h h0
    refine ⟨_, rfl, hb, fun j u hj => ?_⟩
    unfold icells at hj
    rw [List.getElem?_map] at hj
    obtain ⟨p, hp, rfl⟩ := Option.map_eq_some_iff.1 hj
    rw [addN]
    exact hc j p hp⟩
theorem own_ireads {w : World} {base : Nat} {e : TypeId} {v : Value} {ps : List Int} (h : w.ownsRow base e 1 v ps.length (icells ps)) :
    ∃ (A : Option Addr) (c : Nat), v = .slice A ps.length c ∧ IReads w w.heap.size A ps ∧ ps.length ≤ c := by
  obtain ⟨A, c, rfl⟩ := own_slice h
  have hc := own_cap h
  have hr := Reads.of_own h
  refine ⟨A, c, rfl, fun h0 => ?_, hc⟩
  obtain ⟨ad, rfl, hb, hcell⟩ := hr.2 h0
  obtain ⟨b, o, sp⟩ := ad
  have k0 : ∀ (i : Nat) (p : Int), ps[i]? = some p → (icells ps)[i]? = some (.int .i64 p) := fun i p hp => by unfold icells; rw [List.getElem?_map, hp]; rfl
  have hsp : sp = none := by
    have := hcell _ _ (k0 0 _ (List.getElem?_eq_getElem h0))
    simpa [Addr.add] using World.cell?_spot this
  subst hsp
  refine ⟨b, o, rfl, hb, fun i k hk => ?_⟩
  have c1 := hcell _ _ (k0 i k hk)
  rw [addN] at c1
  exact c1

/-- is p a place of a row of n values? -/
def plB (p : Int) (n : Nat) : Bool := decide (0 ≤ p) && decide (p < (n : Int))
def placesB (L : List (List V)) (ps : List Int) : Bool := L.all fun r => ps.all fun p => plB p r.length
theorem placesB_nil (ps : List Int) : placesB [] ps = true := rfl
theorem plB_true {p : Int} {n : Nat} (h : plB p n = true) : 0 ≤ p ∧ p < (n : Int) := by unfold plB at h; simpa using h
/-- keys that are places -/
def natK (ks : List (Int × Bool)) : List (Nat × Bool) := ks.map fun k => (k.1.toNat, k.2)
theorem natK_len (ks : List (Int × Bool)) : (natK ks).length = ks.length := by simp [natK]
theorem kI_natK {ks : List (Int × Bool)} (h : ∀ k ∈ ks, 0 ≤ k.1) : kI (natK ks) = ks := by
  unfold kI natK
  rw [List.map_map]
  conv => rhs; rw [← List.map_id ks]
  refine List.map_congr_left fun k hk => ?_
  have := h k hk
  show ((k.1.toNat : Int), k.2) = k
  rw [Int.toNat_of_nonneg this]
theorem natK_mem {ks : List (Int × Bool)} {q : Nat × Bool} (h : q ∈ natK ks) : ∃ k ∈ ks, q = (k.1.toNat, k.2) := by
  obtain ⟨k, hk, rfl⟩ := List.mem_map.1 h
  exact ⟨k, hk, rfl⟩
theorem natK_kI (ks : List (Nat × Bool)) : natK (kI ks) = ks := by
  unfold kI natK
  rw [List.map_map]
  conv => rhs; rw [← List.map_id ks]
  exact List.map_congr_left fun k _ => by simp
theorem sh_is (L : List (List V)) : sh L = 16 ∨ ∃ r ∈ L, sh L = r.length := by
  induction hn : L.length generalizing L with
  | zero => exact .inl (by rw [List.eq_nil_of_length_eq_zero hn]; rfl)
  | succ n ih =>
    obtain ⟨L', x, rfl⟩ : ∃ L' x, L = L' ++ [x] := ⟨L.dropLast, L.getLast (fun e => by simp [e] at hn), (List.dropLast_concat_getLast _).symm⟩
    have hn' : L'.length = n := by simpa using hn
    rw [sh_snoc]
    rcases Nat.le_total (sh L') x.length with h | h
    · rw [Nat.min_eq_left h]
      rcases ih L' hn' with h2 | ⟨r, hr, h2⟩
      · exact .inl h2
      · exact .inr ⟨r, by simp [hr], h2⟩
    · rw [Nat.min_eq_right h]
      exact .inr ⟨x, by simp, rfl⟩
/-- a place of all rows is below the shortest one's length -/
theorem places_sh {L : List (List V)} (hne : L ≠ []) (hl : ∀ r ∈ L, r.length ≤ 16) (p : Int) : (∀ r ∈ L, plB p r.length = true) ↔ 0 ≤ p ∧ p < (sh L : Int) := by
  constructor
  · intro h
    have h0 : ∃ r ∈ L, sh L = r.length := by
      rcases sh_is L with h1 | h1
      · match L, hne with
        | x :: t, _ =>
          have h2 := sh_le (L := x :: t) (r := x) (by simp)
          have h3 := hl x (by simp)
          exact ⟨x, by simp, by omega⟩
      · exact h1
    obtain ⟨r, hr, e⟩ := h0
    have := plB_true (h r hr)
    rw [e]
    exact this
  · intro h r hr
    have := sh_le hr
    unfold plB
    simp
    omega
theorem placesB_sh {L : List (List V)} (hne : L ≠ []) (hl : ∀ r ∈ L, r.length ≤ 16) (ps : List Int) : placesB L ps = true ↔ ∀ p ∈ ps, 0 ≤ p ∧ p < (sh L : Int) := by
  unfold placesB
  simp only [List.all_eq_true]
  constructor
  · exact fun h p hp => (places_sh hne hl p).1 fun r hr => h r hr p hp
  · exact fun h r hr p hp => (places_sh hne hl p).2 (h p hp) r hr
/-- the first key that is none -/
theorem first_bad {ks : List (Int × Bool)} {m : Nat} (h : ¬ ∀ k ∈ ks, 0 ≤ k.1 ∧ k.1 < (m : Int)) : ∃ (a : List (Nat × Bool)) (k : Int × Bool) (b : List (Int × Bool)), ks = kI a ++ k :: b ∧ (∀ q ∈ a, q.1 < m) ∧ (k.1 < 0 ∨ (m : Int) ≤ k.1) := by
  induction ks with
  | nil => exact absurd (fun k hk => by cases hk) h
  | cons k ks ih =>
    by_cases hk : 0 ≤ k.1 ∧ k.1 < (m : Int)
    · obtain ⟨a, q, b, e, h1, h2⟩ := ih fun h' => h fun q hq => by
        rcases List.mem_cons.1 hq with rfl | hq
        · exact hk
        · exact h' q hq
      refine ⟨(k.1.toNat, k.2) :: a, q, b, ?_, fun q hq => ?_, h2⟩
      · rw [e]
        simp only [kI, List.map_cons, List.cons_append]
        rw [Int.toNat_of_nonneg hk.1]
      · rcases List.mem_cons.1 hq with rfl | hq
        · show k.1.toNat < m
          omega
        · exact h1 q hq
    · exact ⟨[], k, ks, rfl, (fun q hq => by cases hq), by omega⟩

set_option maxHeartbeats 1000000 in
theorem checkKeys_arg (A : Option Addr) (c : Nat) (L : List (List V)) (Ak : Option Addr) (ck n : Nat) (ks : List (Nat × Bool)) (k0 : Int × Bool) (rest : List (Int × Bool)) (w : World) (hr : LReads w w.heap.size A L) (hi : InL L) (h0 : chkR [L] = 0) (hne : L ≠ []) (hk : KReads w w.heap.size Ak (kI ks ++ k0 :: rest)) (hnl : ks.length < n) (hn6 : n ≤ 1000000) (hin : ∀ k ∈ ks, k.1 < sh L) (hbad : k0.1 < 0 ∨ (sh L : Int) ≤ k0.1) :
    Calls Tryz.prog 71 #[.slice A L.length c, .slice Ak n ck] w fun e w' => e = .returned (.tuple #[.slice none 0 0, .int .i64 1]) ∧ Below w.heap.size w w' := by
  have HK0 := Lib.hid (And.intro hk hbad)
  have hkl : ks.length ≤ 1000000 := by omega
  have HA := Lib.hid (And.intro hr (And.intro hi (And.intro hk.pre (And.intro hin (fine_of h0 (L := L) (by simp) hi)))))
  have he : (chkR [L] != 0) = false := by simp [h0]
  have hl0 : ((L.length : Int) == 0) = false := by
    cases L with
    | nil => exact absurd rfl hne
    | cons x l => simp; omega
  have hL2 := HA.out.2.2.2.2.2.1
  obtain ⟨i0, hi0, hz0, hz1, hz2⟩ := info_parts infoK
  clear hr hi h0 hk hin hne hbad
  go_enter Tryz.func71, Tryz.ntmps71
  go_wp2_with fail
  have q1 := Blk.new w 23 #[.slice A L.length c]
  have q2 : Below w.heap.size w (w.alloc (.cells #[.slice A L.length c] 23)) := al (Below.refl _ _) _
  have q3 := LLReads.one q1 (HA.out.1.below q2 q2.size)
  refine (checkR_any _ _ [L] _ q3 (fun X hX => ?_) (by simp)).mono ?_
  · simp only [List.mem_cons, List.not_mem_nil, or_false] at hX
    subst hX
    exact HA.out.2.1.fit
  rintro e w1 ⟨rfl, hb1⟩
  have W1 := Lib.hid (thn q2 hb1)
  clear q1 q2 q3 hb1
  go_wp2_with fail
  refine (shortest_any A c L _ (HA.out.1.below (al W1.out _) (al W1.out _).size) hL2 HA.out.2.2.2.2.2.2).mono ?_
  rintro e w2 ⟨rfl, rfl⟩
  have W2 := Lib.hid (And.intro (al W1.out (.cells (seenC []) 135)) (Blk.new w1 135 (seenC [])))
  go_wp2_with fail
  go_loopw [8, 25] (fun u i wr => ∃ k : Nat, k ≤ ks.length ∧ i = .int .i64 k ∧ Hid (wr.ownsRow (w1.heap.size + 1) 61 2 u (dedK (ks.take k)).length (kcells (dedK (ks.take k))) ∧ Blk wr w1.heap.size 135 (seenC (dedK (ks.take k))) ∧ Below w1.heap.size w1 wr ∧ w1.heap.size + 1 ≤ wr.heap.size)) (fun _ i _ => n - (intOf i).toNat)
  case atStart => exact ⟨0, Nat.zero_le _, rfl, Lib.hid ⟨⟨rfl, .inl ⟨rfl, rfl⟩⟩, W2.out.2, al (Below.refl _ _) _, by simp⟩⟩
  case round =>
    obtain ⟨k, hk, rfl, HI⟩ := hrel
    by_cases hlt : k < ks.length
    · have hltn : k < n := by omega
      have hbw := W1.out.trans (HI.out.2.2.1.mono W1.out.size)
      obtain ⟨b, o, rfl, hbb, hc1, hc2⟩ := (HA.out.2.2.1.below hbw hbw.size).at_ (i := k) (by simp [kI]; exact hlt)
      have hm := HA.out.2.2.2.1 ks[k] (List.getElem_mem hlt)
      have hs16 := sh_le16 L
      have HK := Lib.hid (show ks.take (k + 1) = ks.take k ++ [ks[k]] from List.take_succ_eq_append_getElem hlt)
      simp only [kI, List.getElem_map] at hc1 hc2
      have hmk : ks[k] = (ks[k].1, ks[k].2) := rfl
      rw [hmk] at HK
      generalize ks[k].2 = d at *
      generalize ks[k].1 = m at *
      have hc3 : ¬ (m : Int) < 0 := by omega
      have hc4 : ¬ (sh L : Int) ≤ (m : Int) := by omega
      have HC := Lib.hid (And.intro hm hs16)
      have hc5 : ¬ 16 ≤ (m : Int) := by omega
      have hs1 : w1.heap.size < wr.heap.size := HI.out.2.2.2
      have hse := (HI.out.2.1.cell m).trans (seenC_at _ m (by omega))
      have HQ : Hid (dedK (ks.take (k + 1)) = if (dedK (ks.take k)).any (fun q => q.1 == m) then dedK (ks.take k) else dedK (ks.take k) ++ [(m, d)]) := by
        show dedK _ = _
        rw [HK.out, dedK_snoc]; rfl
      generalize (dedK (ks.take k)).any (fun q => q.1 == m) = sb at hse HQ
      have HB := Lib.hid hbw
      clear hmk hm hs16 hbw
      cases sb
      · have q0 : (wr.setCell ⟨w1.heap.size, m, none⟩ (.bool true)).heap.size = wr.heap.size := by simp [World.setCell]
        have q1 := Blk.new ((wr.setCell ⟨w1.heap.size, m, none⟩ (.bool true)).alloc (.cells #[.int .i64 (m : Int), .bool d] 61)) 61 #[.int .i64 (m : Int), .bool d]
        have q1s : ((wr.setCell ⟨w1.heap.size, m, none⟩ (.bool true)).alloc (.cells #[.int .i64 (m : Int), .bool d] 61)).heap.size = wr.heap.size + 1 := by simp [q0]
        rw [q1s] at q1
        have q2 := kread_one q1 (B := wr.heap.size + 1 + 1) (by omega)
        have q3 : World.ownsRow (wr.setCell ⟨w1.heap.size, m, none⟩ (.bool true)) (w1.heap.size + 1) 61 2 u8 (dedK (ks.take k)).length (kcells (dedK (ks.take k))) := own_set HI.out.1 (by simp) _
        have HW := Lib.hid (And.intro ((q3.alloc (.cells #[.int .i64 (m : Int), .bool d] 61)).alloc (.cells #[.int .i64 (m : Int), .bool d] 61)) (And.intro q2 (dedK_len (ks.take k))))
        have hfz := (HI.out.2.1.alloc (.cells #[.int .i64 (m : Int), .bool d] 61)).frozen m
        clear q0 q1 q1s q2 q3
        set_option maxRecDepth 6000 in go_wp2_with (at_builtin; refine wpList_append_any _ rfl (.tmp 46) (.tmp 48) 58 rfl (w1.heap.size + 1) 61 i0 (.agg #[.int .i64 0, .bool false]) 2 16 Tryz.underlying58 hi0 hz0 hz1 hz2 rfl (by decide) _ _ _ rfl HW.out.1 (wr.heap.size + 1 + 1) _ 1 1 (kcells [(m, d)]) rfl HW.out.2.1 ?c1 ?c2 ?c3 ?c4 ?_)
        case c1 => exact kcells_one _
        case c2 => have := HW.out.2.2; rw [List.length_take] at this; unfold maxLen; omega
        case c3 => have := HW.out.2.2; rw [List.length_take] at this; omega
        case c4 => omega
        intro v2 w2 hown2 hgr2 _
        have HN : Hid (w2.ownsRow (w1.heap.size + 1) 61 2 v2 (dedK (ks.take (k + 1))).length (kcells (dedK (ks.take (k + 1)))) ∧ Blk w2 w1.heap.size 135 (seenC (dedK (ks.take (k + 1)))) ∧ Below w1.heap.size w1 w2 ∧ w1.heap.size + 1 ≤ w2.heap.size) := by
          have hq := HQ.out
          simp only [Bool.false_eq_true, if_false] at hq
          have b1 : Below (w1.heap.size + 1) (wr.setCell ⟨w1.heap.size, m, none⟩ (.bool true)) w2 := (((Below.refl _ _).alloc (by simp [World.setCell]; omega) _).alloc (by simp [World.setCell]; omega) _).grown hgr2 (by simp [World.setCell]; omega) fun r e => own_base HI.out.1 r e
          have b2 : Blk w2 w1.heap.size 135 (seenC (dedK (ks.take k) ++ [(m, d)])) := by
            have := (HI.out.2.1.set_ m (.bool true)).below b1 (by omega)
            rwa [seenC_set _ (m, d) (by omega)] at this
          rw [hq, List.length_append, kcells_append]
          exact ⟨hown2, b2, (HI.out.2.2.1.setCell (p := ⟨w1.heap.size, m, none⟩) (Nat.le_refl _) _).trans (b1.mono (by omega)), Nat.le_trans (by simp [World.setCell]; omega) b1.size⟩
        clear hown2 hgr2 hfz
        set_option maxRecDepth 6000 in go_wp2_with fail
        go_roundw
        case rel => exact ⟨k + 1, by omega, by go_num, HN⟩
        case measure => simp [intOf]; omega
      · set_option maxRecDepth 6000 in go_wp2_with fail
        go_roundw
        case rel => exact ⟨k + 1, by omega, by go_num, Lib.hid (by rw [HQ.out]; exact ⟨HI.out.1.alloc _, HI.out.2.1.alloc _, HI.out.2.2.1.alloc (by omega) _, by simp; omega⟩)⟩
        case measure => simp [intOf]; omega
    · have hkn : k = ks.length := by omega
      have hltn : k < n := by omega
      have hbw := W1.out.trans (HI.out.2.2.1.mono W1.out.size)
      obtain ⟨b, o, rfl, hbb, hc1, hc2⟩ := (HK0.out.1.below hbw hbw.size).at_ (i := k) (by simp [kI]; omega)
      have hg : (kI ks ++ k0 :: rest)[k]'(by simp [kI]; omega) = k0 := by
        rw [List.getElem_append_right (by simp [kI]; omega)]
        simp [kI, hkn]
      rw [hg] at hc1 hc2
      have hbad := HK0.out.2
      have HB := Lib.hid (thn W1.out HI.out.2.2.1)
      generalize k0.1 = m at *
      generalize k0.2 = d at *
      clear hg hbw HK0 hkn
      by_cases hm : m < 0
      · set_option maxRecDepth 6000 in go_wp2_with fail
        go_ret2
        exact ⟨rfl, HB.out.alloc (by have := HB.out.size; omega) _⟩
      · have hm2 : (sh L : Int) ≤ m := by omega
        set_option maxRecDepth 6000 in go_wp2_with fail
        go_ret2
        exact ⟨rfl, HB.out.alloc (by have := HB.out.size; omega) _⟩

set_option maxHeartbeats 1000000 in
theorem checkKeys_none (A : Option Addr) (c : Nat) (L : List (List V)) (Ak : Option Addr) (ck n : Nat) (w : World) (hr : LReads w w.heap.size A L) (hi : InL L) (h0 : L = [] ∨ chkR [L] ≠ 0) :
    Calls Tryz.prog 71 #[.slice A L.length c, .slice Ak n ck] w fun e w' => e = .returned (.tuple #[.slice none 0 0, .int .i64 (chkR [L])]) ∧ Below w.heap.size w w' := by
  have HA := Lib.hid (And.intro hr hi)
  have HC : Hid (chkR [L] = 0 → L = []) := fun h => h0.elim id fun h' => absurd h h'
  clear hr hi h0
  go_enter Tryz.func71, Tryz.ntmps71
  go_wp2_with fail
  have q1 := Blk.new w 23 #[.slice A L.length c]
  have q2 : Below w.heap.size w (w.alloc (.cells #[.slice A L.length c] 23)) := al (Below.refl _ _) _
  have q3 := LLReads.one q1 (HA.out.1.below q2 q2.size)
  refine (checkR_any _ _ [L] _ q3 (fun X hX => ?_) (by simp)).mono ?_
  · simp only [List.mem_cons, List.not_mem_nil, or_false] at hX
    subst hX
    exact HA.out.2.fit
  rintro e w1 ⟨rfl, hb1⟩
  have W1 := Lib.hid (thn q2 hb1)
  clear q1 q2 q3 hb1
  by_cases hz : chkR [L] = 0
  · have hl := HC.out hz
    subst hl
    rw [hz]
    have hl0 : ((([] : List (List V)).length : Int) == 0) = true := rfl
    go_wp2_with fail
    go_ret2
    exact ⟨rfl, W1.out⟩
  · have he : (chkR [L] != 0) = true := by simp [hz]
    clear hz
    go_wp2_with fail
    go_ret2
    exact ⟨rfl, W1.out⟩
/-- the error of checkKeys -/
def ordE (L : List (List V)) (ks : List (Int × Bool)) : Int := if chkR [L] ≠ 0 then chkR [L] else if placesB L (ks.map (·.1)) then 0 else 1
theorem ordE_bad {L : List (List V)} {ks : List (Int × Bool)} (h : chkR [L] ≠ 0) : ordE L ks = chkR [L] := if_pos h
theorem ordE_nil {ks : List (Int × Bool)} (h : chkR [[]] = 0) : ordE [] ks = 0 := by unfold ordE; rw [if_neg (by simp [h])]; rfl
theorem ordE_place {L : List (List V)} {ks : List (Int × Bool)} (h : chkR [L] = 0) (hp : placesB L (ks.map (·.1)) = true) : ordE L ks = 0 := by unfold ordE; rw [if_neg (by simp [h]), if_pos hp]
theorem ordE_none {L : List (List V)} {ks : List (Int × Bool)} (h : chkR [L] = 0) (hp : placesB L (ks.map (·.1)) = false) : ordE L ks = 1 := by unfold ordE; rw [if_neg (by simp [h]), hp]; rfl
theorem places_keys {L : List (List V)} {ks : List (Int × Bool)} (hne : L ≠ []) (hl : ∀ r ∈ L, r.length ≤ 16) : placesB L (ks.map (·.1)) = true ↔ ∀ k ∈ ks, 0 ≤ k.1 ∧ k.1 < (sh L : Int) := by
  rw [placesB_sh hne hl]
  constructor
  · exact fun h k hk => h k.1 (List.mem_map_of_mem hk)
  · intro h p hp
    obtain ⟨k, hk, rfl⟩ := List.mem_map.1 hp
    exact h k hk

set_option maxHeartbeats 1000000 in
theorem Ordered_err (A : Option Addr) (c : Nat) (L : List (List V)) (Ak : Option Addr) (ck : Nat) (ks : List (Int × Bool)) (w : World) (hr : LReads w w.heap.size A L) (hi : InL L) (hk : KReads w w.heap.size Ak ks) (hkl : ks.length ≤ 1000000) (he0 : ordE L ks ≠ 0) :
    Calls Tryz.prog 42 #[.slice A L.length c, .slice Ak ks.length ck] w fun e w' => e = .returned (.tuple #[.slice none 0 0, .int .i64 (ordE L ks)]) ∧ Below w.heap.size w w' := by
  have hck : Calls Tryz.prog 71 #[.slice A L.length c, .slice Ak ks.length ck] w fun e w' => e = .returned (.tuple #[.slice none 0 0, .int .i64 (ordE L ks)]) ∧ Below w.heap.size w w' := by
    by_cases hz : chkR [L] = 0
    · have hne : L ≠ [] := fun e => by subst e; exact he0 (ordE_nil hz)
      have f1 := fine_of hz (L := L) (by simp) hi
      have hp : ¬ ∀ k ∈ ks, 0 ≤ k.1 ∧ k.1 < (sh L : Int) := fun h => he0 (ordE_place hz ((places_keys hne f1.2.2).2 h))
      obtain ⟨a, k, b, rfl, h1, h2⟩ := first_bad hp
      have e1 : ordE L (kI a ++ k :: b) = 1 := ordE_none hz (by
        cases h : placesB L ((kI a ++ k :: b).map (·.1)) with
        | false => rfl
        | true => exact absurd ((places_keys hne f1.2.2).1 h) hp)
      rw [e1]
      exact checkKeys_arg A c L Ak ck _ a k b w hr hi hz hne hk (by simp [kI]) hkl h1 h2
    · rw [ordE_bad hz]
      exact checkKeys_none A c L Ak ck _ w hr hi (.inr hz)
  have HC := Lib.hid hck
  have he : (ordE L ks != 0) = true := by simp [he0]
  generalize ordE L ks = q at *
  clear hr hi hk hkl he0 hck
  go_enter Tryz.func42, Tryz.ntmps42
  go_wp2_with fail
  refine HC.out.mono ?_
  rintro e w1 ⟨rfl, hb1⟩
  have W1 := Lib.hid hb1
  clear hb1
  go_wp2_with fail
  go_ret2
  exact ⟨rfl, W1.out⟩
end Go.Proofs.YtapnnheggjahlaaGreatDoor
namespace Go.Proofs.YtapnnheggjahlaaGreatDoor
open Go.Joins Go.ChangeShapes Go.WideShapes Go.ChangeAt Go.RowKit Go.Deep

section
variable {H : Type} {enc : TypeId × Value → H} {w : World} {base : Nat} {spare : Nat → Bool} {held : Bool}
set_option maxRecDepth 100000 in
/-- a row, read as data -/
theorem row_of {u : Value} {fuel : Nat} {x : DataW H × List MemPlace} (h : DataW.trod enc Tryz.prog w base spare held fuel 34 [u] = some x) :
    ∃ (A : Option Addr) (c : Nat) (l : List V), u = .slice A l.length c ∧ VReads w w.heap.size A l ∧ InV l := by
  rcases open_slice_fields Tryz.underlying34 Tryz.underlying78 (by kernel_rfl) cV h with ⟨hcs, _⟩ | ⟨a, len, cap, m, D, Pl, hcs, _, hl, hm, hmm, _, hi⟩
  · simp only [List.cons.injEq, and_true] at hcs
    subst hcs
    exact ⟨none, 0, [], rfl, (fun h0 => absurd h0 (by simp)), ⟨by simp, fun x hx => by cases hx⟩⟩
  · simp only [List.cons.injEq, and_true] at hcs
    subst hcs
    have hlm : len ≤ m := by rw [hmm]; split <;> omega
    obtain ⟨l, hll, hlp⟩ := list_of (p := fun i (x : V) => w.cell? (a.add (i * 3)) = some (.int .i64 x.k) ∧ w.cell? (a.add (i * 3 + 1)) = some (.int .i64 x.n) ∧ w.cell? (a.add (i * 3 + 2)) = some (.string x.s) ∧ x.s.size ≤ maxLen ∧ I64 x.k ∧ I64 x.n) len (fun i hil => by
      obtain ⟨ys, n, _, _, hyl, hfd⟩ := hi i (by omega)
      obtain ⟨u0, y0, c0, _, t0⟩ := hfd 0 _ rfl
      obtain ⟨u1, y1, c1, _, t1⟩ := hfd 1 _ rfl
      obtain ⟨u2, y2, c2, _, t2⟩ := hfd 2 _ rfl
      obtain ⟨x, rfl, rfl, rfl, hs, hk, hn⟩ := value_of t0 t1 t2
      exact ⟨x, c0, c1, c2, hs, hk, hn⟩)
    have hmem : ∀ x ∈ l, x.s.size ≤ maxLen ∧ I64 x.n := fun x hx => by
      obtain ⟨i, hix⟩ := List.mem_iff_getElem?.1 hx
      have := (hlp i x hix).2.2.2
      exact ⟨this.1, this.2.2⟩
    subst hll
    refine ⟨some a, cap, l, rfl, fun h0 => ?_, by omega, hmem⟩
    obtain ⟨b, o, sp⟩ := a
    have h00 := (hlp 0 _ (List.getElem?_eq_getElem h0)).1
    have hsp : sp = none := by simpa [Addr.add] using World.cell?_spot h00
    subst hsp
    have hb : b < w.heap.size := by
      have := block_lt_of_cell h00
      simpa [Addr.add] using this
    refine ⟨b, o, rfl, hb, fun i x hx => ?_⟩
    obtain ⟨c0, c1, c2, _⟩ := hlp i x hx
    simp only [add_plain] at c0 c1 c2
    exact ⟨c0, c1, c2⟩
theorem cR : Tryz.prog.cellsOf 34 = 1 := by kernel_rfl
set_option maxRecDepth 100000 in
/-- rows that came in -/
theorem open_rows {v : Value} {d : DataW H} {p : List MemPlace} {r : Reach} {b0 : Nat} (hv : Value.okWide Tryz.prog w r b0 23 v) (h : DataW.Trod enc Tryz.prog w base spare held 23 v d p) :
    ∃ (A : Option Addr) (c : Nat) (L : List (List V)), v = .slice A L.length c ∧ LReads0 w w.heap.size A L ∧ InL L ∧ L.length ≤ c := by
  obtain ⟨a0, len, cap, rfl⟩ := okWide_slice Tryz.underlying23 hv
  obtain ⟨fuel, hf⟩ := h
  rcases open_slice Tryz.underlying23 hf with ⟨hcs, _⟩ | ⟨a, len', cap', m, n, D, Pl, hcs, hb, hl, hm, hmm, _, hi⟩
  · simp [Value.cells] at hcs
    obtain ⟨rfl, rfl, rfl⟩ := hcs
    exact ⟨none, 0, [], rfl, (fun h0 => absurd h0 (by simp)), ⟨by simp, fun x hx => by cases hx⟩, by simp⟩
  · simp [Value.cells] at hcs
    obtain ⟨rfl, rfl, rfl⟩ := hcs
    have hlm : len ≤ m := by rw [hmm]; split <;> omega
    obtain ⟨L, hll, hlp⟩ := list_of (p := fun i (x : List V) => ∃ Ar cr, w.cell? (a.add i) = some (.slice Ar x.length cr) ∧ VReads w w.heap.size Ar x ∧ InV x) len (fun i hil => by
      obtain ⟨cs', hc, ht'⟩ := hi i (by omega)
      rw [cR] at hc
      obtain ⟨_, hcl, hat⟩ := World.cells?_some hc
      have hcell := hat 0 (by omega)
      have h1 : cs' = [cs'[0]'(by omega)] := by
        match cs', hcl with
        | [u], _ => rfl
      rw [h1] at ht'
      obtain ⟨A, c, l, hu, hr, hI⟩ := row_of ht'
      refine ⟨l, A, c, ?_, hr, hI⟩
      rw [Nat.mul_one, List.getElem?_eq_getElem (by omega), hu] at hcell
      have e0 : (a.add i).add 0 = a.add i := by rw [Go.Deep.add_add]; rfl
      rw [← hcell, e0])
    have hmem : ∀ x ∈ L, InV x := fun x hx => by
      obtain ⟨i, hix⟩ := List.mem_iff_getElem?.1 hx
      obtain ⟨_, _, _, _, h3⟩ := hlp i x hix
      exact h3
    subst hll
    refine ⟨some a, cap, L, rfl, fun h0 => ?_, ⟨by omega, fun r hr => hmem r hr⟩, hl⟩
    obtain ⟨b, o, sp⟩ := a
    obtain ⟨_, _, h00, _, _⟩ := hlp 0 _ (List.getElem?_eq_getElem h0)
    have hsp : sp = none := by simpa [Addr.add] using World.cell?_spot h00
    subst hsp
    have hb : b < w.heap.size := by
      have := block_lt_of_cell h00
      simpa [Addr.add] using this
    refine ⟨b, o, rfl, hb, fun i x hx => ?_⟩
    obtain ⟨Ar, cr, c0, hr, _⟩ := hlp i x hx
    simp only [add_plain] at c0
    exact ⟨Ar, cr, c0, hr⟩
end
end Go.Proofs.YtapnnheggjahlaaGreatDoor
namespace Go.Proofs.YtapnnheggjahlaaGreatDoor
open Go.Joins Go.ChangeShapes Go.WideShapes Go.ChangeAt Go.RowKit Go.Deep

theorem all_snoc2 {α : Type} {p : α → Bool} {l : List α} {k : Nat} (h : k < l.length) (h1 : (l.take k).all p = true) (h2 : p l[k] = true) : (l.take (k + 1)).all p = true := by
  rw [List.take_succ_eq_append_getElem h, List.all_append, h1]
  simp [h2]
theorem all_stop {α : Type} {p : α → Bool} {l : List α} {k : Nat} (h : k < l.length) (h2 : p l[k] = false) : l.all p = false := by
  rw [List.all_eq_false]
  exact ⟨l[k], List.getElem_mem h, by simp [h2]⟩
set_option maxHeartbeats 2000000 in
theorem RPlaces_any (A A' : Option Addr) (c c' : Nat) (L : List (List V)) (ps : List Int) (w : World) (hr : LReads w w.heap.size A L) (hp : IReads w w.heap.size A' ps) (hL : L.length ≤ 1000000) (hl : ∀ r ∈ L, r.length ≤ maxLen) (hpl : ps.length ≤ 1000000) :
    Calls Tryz.prog 40 #[.slice A L.length c, .slice A' ps.length c'] w fun e w' => e = .returned (.bool (placesB L ps)) ∧ Below w.heap.size w w' := by
  have HA := Lib.hid (And.intro hr (And.intro hp hl))
  clear hr hp hl
  go_enter Tryz.func40, Tryz.ntmps40
  go_wp2_with fail
  go_loopw [5] (fun i wr => ∃ k : Nat, k ≤ L.length ∧ i = .int .i64 k ∧ Hid ((L.take k).all (fun r => ps.all fun p => plB p r.length) = true ∧ Below w.heap.size w wr)) (fun i _ => L.length - (intOf i).toNat)
  case atStart => exact ⟨0, Nat.zero_le _, rfl, rfl, Below.refl _ _⟩
  case round =>
    obtain ⟨k, hk, rfl, HI⟩ := hrel
    by_cases hlt : k < L.length
    · have hlti : (k : Int) < (L.length : Int) := by omega
      have hk0 : (0 : Int) ≤ (k : Int) := by omega
      go_wp2_with fail
      go_loopw [6] (fun i wq => ∃ m : Nat, m ≤ ps.length ∧ i = .int .i64 m ∧ Hid ((ps.take m).all (fun p => plB p L[k].length) = true ∧ Below w.heap.size w wq)) (fun i _ => ps.length - (intOf i).toNat)
      case atStart => exact ⟨0, Nat.zero_le _, rfl, rfl, HI.out.2⟩
      case round =>
        obtain ⟨m, hm, rfl, HJ⟩ := hrel
        by_cases hmt : m < ps.length
        · obtain ⟨b, o, Ar, cr, rfl, hblk, hc, _, _⟩ := (HA.out.1.below HJ.out.2 HJ.out.2.size).at_ hlt
          obtain ⟨b2, o2, rfl, hblk2, hc2⟩ := (HA.out.2.1.below HJ.out.2 HJ.out.2.size).at_ hmt
          have X1 : ∀ x : Aft wr, x.w.cell? ⟨b, o + k, none⟩ = some (.slice Ar L[k].length cr) := fun x => (x.h.cell (p := ⟨b, _, none⟩) hblk).trans hc
          have X2 : ∀ x : Aft wr, x.w.cell? ⟨b2, o2 + m, none⟩ = some (.int .i64 ps[m]) := fun x => (x.h.cell (p := ⟨b2, _, none⟩) hblk2).trans hc2
          have hmti : (m : Int) < (ps.length : Int) := by omega
          have hm0 : (0 : Int) ≤ (m : Int) := by omega
          have HG : Hid (plB ps[m] L[k].length = true → (ps.take (m + 1)).all (fun p => plB p L[k].length) = true) := fun h => all_snoc2 hmt HJ.out.1 h
          have HB : Hid (plB ps[m] L[k].length = false → placesB L ps = false) := fun h => all_stop hlt (all_stop hmt h)
          have HW := Lib.hid HJ.out.2
          clear hc hc2 HJ hblk hblk2
          generalize ps[m] = p at *
          generalize L[k].length = q at *
          by_cases h1 : p < 0
          · have e := Lib.hid (HB.out (by unfold plB; simp; omega))
            go_wp2_with fail
            refine region_aft (by kernel_rfl) (by kernel_rfl) ?_
            repeat (go_big_quiet_step (fail))
            refine wpQuiet_nil ?_
            intro x9
            have HZ := Lib.hid (thn HW.out x9.h)
            clear X1 X2
            go_wp2_with fail
            go_ret
            exact ⟨by rw [e.out]; rfl, HZ.out⟩
          · have h1d : decide (p < 0) = false := by simpa using h1
            by_cases h2 : (q : Int) ≤ p
            · have e := Lib.hid (HB.out (by unfold plB; simp; omega))
              go_wp2_with fail
              refine region_aft (by kernel_rfl) (by kernel_rfl) ?_
              repeat (go_big_quiet_step (fail))
              refine wpQuiet_nil ?_
              intro x9
              have HZ := Lib.hid (thn HW.out x9.h)
              clear X1 X2
              go_wp2_with fail
              go_ret
              exact ⟨by rw [e.out]; rfl, HZ.out⟩
            · have e := Lib.hid (HG.out (by unfold plB; simp; omega))
              go_wp2_with fail
              refine region_aft (by kernel_rfl) (by kernel_rfl) ?_
              repeat (go_big_quiet_step (fail))
              refine wpQuiet_nil ?_
              intro x9
              have HZ := Lib.hid (thn HW.out x9.h)
              clear X1 X2
              go_wp2_with fail
              go_roundw
              case rel => exact ⟨m + 1, by omega, by go_num, e.out, HZ.out⟩
              case measure => simp [intOf]; omega
        · have e : Hid ((L.take (k + 1)).all (fun r => ps.all fun p => plB p r.length) = true) := by
            refine all_snoc2 hlt HI.out.1 ?_
            have := HJ.out.1
            rwa [List.take_of_length_le (by omega)] at this
          go_wp2_with fail
          go_roundw
          case rel => exact ⟨k + 1, by omega, by go_num, e.out, HJ.out.2⟩
          case measure => simp [intOf]; omega
    · have e : Hid (placesB L ps = true) := by
        have := HI.out.1
        rwa [List.take_of_length_le (by omega)] at this
      go_wp2_with fail
      go_ret
      exact ⟨by rw [e.out]; rfl, HI.out.2⟩

set_option maxHeartbeats 1000000 in
theorem ROrdered_nil (A Ak : Option Addr) (c n ck : Nat) (w : World) :
    Calls Tryz.prog 43 #[.slice A 0 c, .slice Ak n ck] w fun e w' => ∃ A' c', e = .returned (.slice A' 0 c') ∧ Below w.heap.size w w' := by
  go_enter Tryz.func43, Tryz.ntmps43
  go_wp2_with fail
  refine (RCopy_any A c [] w (fun h => by simp at h) (by simp) (fun r h => by simp at h)).mono ?_
  rintro e w1 ⟨v, vs, rfl, ho, _, _, hb⟩
  obtain ⟨A1, c1, rfl⟩ := own_slice ho
  have HB := Lib.hid hb
  clear ho hb
  go_wp2_with fail
  go_ret
  exact ⟨A1, c1, rfl, HB.out⟩

section
variable {H : Type} {enc : TypeId × Value → H} {w : World} {base : Nat} {spare : Nat → Bool} {held : Bool}
theorem cK : Tryz.prog.cellsOf 61 = 2 := by kernel_rfl
theorem cI : Tryz.prog.cellsOf 3 = 1 := by kernel_rfl
set_option maxRecDepth 100000 in
/-- keys that came in -/
theorem open_keys {v : Value} {d : DataW H} {p : List MemPlace} {r : Reach} {b0 : Nat} (hv : Value.okWide Tryz.prog w r b0 58 v) (h : DataW.Trod enc Tryz.prog w base spare held 58 v d p) :
    ∃ (A : Option Addr) (c : Nat) (ks : List (Int × Bool)), v = .slice A ks.length c ∧ KReads w w.heap.size A ks ∧ ks.length ≤ maxLen ∧ ks.length ≤ c ∧ (A = none → c = 0) := by
  obtain ⟨a0, len, cap, rfl⟩ := okWide_slice Tryz.underlying58 hv
  obtain ⟨fuel, hf⟩ := h
  rcases open_slice_fields Tryz.underlying58 Tryz.underlying61 (by kernel_rfl) cK hf with ⟨hcs, _⟩ | ⟨a, len', cap', m, D, Pl, hcs, _, hl, hm, hmm, _, hi⟩
  · simp [Value.cells] at hcs
    obtain ⟨rfl, rfl, rfl⟩ := hcs
    exact ⟨none, 0, [], rfl, (fun h0 => absurd h0 (by simp)), (by simp), (by simp), fun _ => rfl⟩
  · simp [Value.cells] at hcs
    obtain ⟨rfl, rfl, rfl⟩ := hcs
    have hlm : len ≤ m := by rw [hmm]; split <;> omega
    obtain ⟨l, hll, hlp⟩ := list_of (p := fun i (x : Int × Bool) => w.cell? (a.add (i * 2)) = some (.int .i64 x.1) ∧ w.cell? (a.add (i * 2 + 1)) = some (.bool x.2)) len (fun i hil => by
      obtain ⟨ys, n, _, _, hyl, hfd⟩ := hi i (by omega)
      obtain ⟨u0, y0, c0, _, t0⟩ := hfd 0 _ rfl
      obtain ⟨u1, y1, c1, _, t1⟩ := hfd 1 _ rfl
      obtain ⟨k, e0, _, _⟩ := DataW.trod_int Tryz.underlying3 t0
      obtain ⟨q, e1, _⟩ := DataW.trod_bool Tryz.underlying4 t1
      simp only [List.cons.injEq, and_true] at e0 e1
      subst e0 e1
      exact ⟨(k, q), c0, c1⟩)
    subst hll
    refine ⟨some a, cap, l, rfl, fun h0 => ?_, by omega, hl, fun h => by cases h⟩
    obtain ⟨b, o, sp⟩ := a
    have h00 := (hlp 0 _ (List.getElem?_eq_getElem h0)).1
    have hsp : sp = none := by simpa [Addr.add] using World.cell?_spot h00
    subst hsp
    have hb : b < w.heap.size := by
      have := block_lt_of_cell h00
      simpa [Addr.add] using this
    refine ⟨b, o, rfl, hb, fun i x hx => ?_⟩
    obtain ⟨c0, c1⟩ := hlp i x hx
    simp only [add_plain] at c0 c1
    exact ⟨c0, c1⟩
set_option maxRecDepth 100000 in
/-- numbers that came in -/
theorem open_ints {v : Value} {d : DataW H} {p : List MemPlace} {r : Reach} {b0 : Nat} (hv : Value.okWide Tryz.prog w r b0 52 v) (h : DataW.Trod enc Tryz.prog w base spare held 52 v d p) :
    ∃ (A : Option Addr) (c : Nat) (ps : List Int), v = .slice A ps.length c ∧ IReads w w.heap.size A ps ∧ ps.length ≤ maxLen ∧ ps.length ≤ c ∧ (A = none → c = 0) := by
  obtain ⟨a0, len, cap, rfl⟩ := okWide_slice Tryz.underlying52 hv
  obtain ⟨fuel, hf⟩ := h
  rcases open_slice Tryz.underlying52 hf with ⟨hcs, _⟩ | ⟨a, len', cap', m, n, D, Pl, hcs, hb, hl, hm, hmm, _, hi⟩
  · simp [Value.cells] at hcs
    obtain ⟨rfl, rfl, rfl⟩ := hcs
    exact ⟨none, 0, [], rfl, (fun h0 => absurd h0 (by simp)), (by simp), (by simp), fun _ => rfl⟩
  · simp [Value.cells] at hcs
    obtain ⟨rfl, rfl, rfl⟩ := hcs
    have hlm : len ≤ m := by rw [hmm]; split <;> omega
    obtain ⟨l, hll, hlp⟩ := list_of (p := fun i (x : Int) => w.cell? (a.add i) = some (.int .i64 x)) len (fun i hil => by
      obtain ⟨cs', hc, ht'⟩ := hi i (by omega)
      rw [cI] at hc
      obtain ⟨_, hcl, hat⟩ := World.cells?_some hc
      have hcell := hat 0 (by omega)
      obtain ⟨k, e0, _, _⟩ := DataW.trod_int Tryz.underlying3 ht'
      subst e0
      refine ⟨k, ?_⟩
      rw [Nat.mul_one] at hcell
      have e0 : (a.add i).add 0 = a.add i := by rw [Go.Deep.add_add]; rfl
      rw [e0] at hcell
      simpa using hcell)
    subst hll
    refine ⟨some a, cap, l, rfl, fun h0 => ?_, by omega, hl, fun h => by cases h⟩
    obtain ⟨b, o, sp⟩ := a
    have h00 := hlp 0 _ (List.getElem?_eq_getElem h0)
    have hsp : sp = none := by simpa [Addr.add] using World.cell?_spot h00
    subst hsp
    have hb : b < w.heap.size := by
      have := block_lt_of_cell h00
      simpa [Addr.add] using this
    refine ⟨b, o, rfl, hb, fun i x hx => ?_⟩
    have c0 := hlp i x hx
    simp only [add_plain] at c0
    exact c0
end
end Go.Proofs.YtapnnheggjahlaaGreatDoor
namespace Go.Proofs.YtapnnheggjahlaaGreatDoor
open Go.RowKit

section
variable {P : Program} {w : World}
theorem run_append_fresh (base : Nat) (t ty e : TypeId) (i : TypeInfo) (z : Value) (size bytes : Nat) (ht : P.underlying t = some (.slice e)) (hi : P.info? e = some i) (hz : i.zero = some z)
    (hsize : i.size = size) (hby : i.bytes = bytes) (hzs : z.cells.size = size)
    (g : Nat) (hown : w.ownsRow base e size (.slice (some ⟨g, 0, none⟩) 0 0) 0 [])
    (B : Nat) (A : Option Addr) (m c : Nat) (news : List Value) (hr : Reads w B size A m news)
    (h63 : m ≤ maxLen) (hbytes : m * bytes ≤ 140737488355328) (hbase : base ≤ w.heap.size) :
    ∃ v' w', (Builtin.append_ #[t, t] ty #[.slice (some ⟨g, 0, none⟩) 0 0, .slice A m c]).run P w = .ok v' w' ∧ w'.ownsRow base e size v' m news ∧ Below w.heap.size w w' := by
  subst hsize
  subst hby
  rcases Nat.eq_zero_or_pos m with h0 | h0
  · subst h0
    have hn : news = [] := List.eq_nil_of_length_eq_zero (by simpa using hr.1)
    subst hn
    refine ⟨_, w, ?_, hown, Below.refl _ _⟩
    cases A with
    | none => exact run_append_of_nil w base t ty e i i.size ht hi _ 0 [] hown c
    | some ad => simp [Builtin.append_, run_underlying ht, sizeOf, typeInfo, hi, Builtin.lenOf, Builtin.firstCells, loadCells, loadCellsFrom, storeCells]
  · obtain ⟨ad, rfl, _, hc⟩ := hr.2 h0
    have hsmall : m ≤ 9223372036854775807 := by simp only [maxLen] at h63; omega
    have hrun := run_append_grow (P := P) w t ty e i z ht hi hz ⟨g, 0, none⟩ 0 0 [] (by simp) (fun j u h => by simp at h) ad m c news hr.1 hc (by omega) (by omega) (growslice_fits (by omega) (by simpa using hbytes))
    simp only [Nat.zero_add, Array.empty_append] at hrun
    refine ⟨_, _, hrun, ?_, ?_⟩
    · have hge := grownCap_ge w m 0 e
      have hcm : grownCap w m 0 e ≤ maxLen := grownCap_le_maxLen w m 0 e h63
      refine ⟨hr.1, .inr ⟨w.heap.size, _, _, rfl, hbase, heap_alloc_new w.drew _, hge, hcm, ?_, ?_⟩⟩
      · simp only [Array.size_append, List.size_toArray, size_zeroCells, hzs, hr.1, ← Nat.add_mul]
        congr 1
        omega
      · simp only [Array.toList_append, ← hr.1]
        simp
    · exact ((Lay.refl w).drew.1).alloc (Nat.le_refl _) _
theorem wpList_append_fresh {ops : Array Oper} {rest : List Oper} {o : Oper} {a : Act} {Q : Exit → Act → World → Prop} (hgd : o.guard = none) (s x : Operand) (t : TypeId)
    (ho : o.op = .call { callee := .builtin .append, args := #[s, x], argTypes := #[t, t] })
    (base : Nat) (e : TypeId) (i : TypeInfo) (z : Value) (size bytes : Nat) (ht : P.underlying t = some (.slice e)) (hi : P.info? e = some i) (hz : i.zero = some z)
    (hsize : i.size = size) (hby : i.bytes = bytes) (hzs : z.cells.size = size)
    (g : Nat) (hs : a.eval s = .slice (some ⟨g, 0, none⟩) 0 0) (hown : w.ownsRow base e size (.slice (some ⟨g, 0, none⟩) 0 0) 0 [])
    (B : Nat) (A : Option Addr) (m c : Nat) (news : List Value) (hx : a.eval x = .slice A m c) (hr : Reads w B size A m news)
    (h63 : m ≤ maxLen) (hbytes : m * bytes ≤ 140737488355328) (hbase : base ≤ w.heap.size)
    (h : ∀ v' w', w'.ownsRow base e size v' m news → Below w.heap.size w w' → wpList P ops Q rest (a.put o.dst v') w') : wpList P ops Q (o :: rest) a w := by
  refine wpList_plain hgd fun K hK => ?_
  obtain ⟨v', w', hrun, h2, h3⟩ := run_append_fresh (P := P) base t o.type e i z size bytes ht hi hz hsize hby hzs g hown B A m c news hr h63 hbytes hbase
  unfold Oper.wp execOp
  simp only [ho, resolve, invoke, builtin, Sem.run_bind, Sem.run_pure, Result.andThen_ok, List.map_toArray, List.map_cons, List.map_nil, hs, hx, hrun]
  exact hK _ _ (h v' w' h2 h3)
end
end Go.Proofs.YtapnnheggjahlaaGreatDoor
namespace Go.Proofs.YtapnnheggjahlaaGreatDoor
open Go.RowKit

/-- a column is a Kind and a truth -/
def okC (q : Int × Bool) : Bool := q.1 == 1 || q.1 == 2 || q.1 == 3
def colsE (cs : List (Int × Bool)) : Int := if 16 < cs.length then 2 else if cs = [] ∨ cs.any (fun q => !okC q) = true then 20 else 0
def fitB (v : V) (q : Int × Bool) : Bool := v.k == q.1 || (q.2 && v.k == 0)
def eqB (cs : List (Int × Bool)) (r : List V) : Bool := decide (r.length = cs.length) && (r.zip cs).all fun p => fitB p.1 p.2
def fitE (cs : List (Int × Bool)) (L : List (List V)) : Bool := L.all (eqB cs)

set_option maxHeartbeats 1000000 in
theorem hasNoKind_any (k : Int) (b : Bool) (w : World) :
    Calls Tryz.prog 56 #[.agg #[.int .i64 k, .bool b]] w fun e w' => e = .returned (.bool (!okC (k, b))) ∧ Below w.heap.size w w' := by
  by_cases h1 : k = 1
  · subst h1
    go_enter Tryz.func56, Tryz.ntmps56
    go_wp2
    go_ret
    exact ⟨rfl, al (Below.refl _ _) _⟩
  by_cases h2 : k = 2
  · subst h2
    go_enter Tryz.func56, Tryz.ntmps56
    go_wp2
    go_ret
    exact ⟨rfl, al (Below.refl _ _) _⟩
  by_cases h3 : k = 3
  · subst h3
    go_enter Tryz.func56, Tryz.ntmps56
    go_wp2
    go_ret
    exact ⟨rfl, al (Below.refl _ _) _⟩
  have HE : Hid (okC (k, b) = false) := by show _ = _; simp [okC, h1, h2, h3]
  have e1 : (k != 1) = true := by simp [h1]
  have e2 : (k != 2) = true := by simp [h2]
  have e3 : (k != 3) = true := by simp [h3]
  clear h1 h2 h3
  go_enter Tryz.func56, Tryz.ntmps56
  go_wp2
  go_ret
  exact ⟨by rw [HE.out]; rfl, al (Below.refl _ _) _⟩
set_option maxHeartbeats 1000000 in
theorem IndexFunc_cols (A : Option Addr) (c : Nat) (cs : List (Int × Bool)) (w : World) (hr : KReads w w.heap.size A cs) (hn : cs.length ≤ 1000000) :
    Calls Tryz.prog 87 #[.slice A cs.length c, .func (.func 56) #[] #[]] w fun e w' => ∃ z, e = .returned (.int .i64 z) ∧ FoundI z (cs.any fun q => !okC q) ∧ Below w.heap.size w w' := by
  have HR := Lib.hid hr
  clear hr
  go_enter Tryz.func87, Tryz.ntmps87
  go_wp2
  go_loopw [8] (fun i wr => ∃ k : Nat, k ≤ cs.length ∧ i = .int .i64 k ∧ Hid ((cs.take k).any (fun q => !okC q) = false ∧ Below w.heap.size w wr)) (fun i _ => cs.length - (intOf i).toNat)
  case atStart => exact ⟨0, Nat.zero_le _, rfl, by simp, Below.refl _ _⟩
  case round =>
    obtain ⟨k, hk, rfl, HI⟩ := hrel
    by_cases hlt : k < cs.length
    · obtain ⟨b, o, rfl, hblk, c0, c1⟩ := (HR.out.below HI.out.2 HI.out.2.size).at_ hlt
      have HX := Lib.hid (hasNoKind_any cs[k].1 cs[k].2 wr)
      have HN := Lib.hid (fun h : (!okC cs[k]) = false => (by rw [any_take_snoc hlt, HI.out.1, h]; rfl : (cs.take (k + 1)).any (fun q => !okC q) = false))
      have HY := Lib.hid (fun h : (!okC cs[k]) = true => any_at (p := fun q => !okC q) hlt h)
      go_wp2_with fail
      refine HX.out.mono ?_
      rintro e w1 ⟨rfl, hb1⟩
      have W1 := Lib.hid (thn HI.out.2 hb1)
      clear hb1 HX c0 c1
      have e9 : (!okC (cs[k].1, cs[k].2)) = !okC cs[k] := rfl
      rw [e9]
      clear e9
      generalize (!okC cs[k]) = q at *
      cases q
      · have HN2 := Lib.hid (HN.out rfl)
        clear HN HY
        go_wp2_with fail
        go_roundw
        case rel => exact ⟨k + 1, by omega, by go_num, HN2.out, W1.out⟩
        case measure => simp [intOf]; omega
      · have HY2 := Lib.hid (HY.out rfl)
        clear HN HY
        go_wp2_with fail
        go_ret
        exact ⟨_, rfl, .inl ⟨HY2.out, by omega, by omega⟩, W1.out⟩
    · have hkn : k = cs.length := by omega
      subst hkn
      go_wp2_with fail
      go_ret
      exact ⟨_, rfl, .inr ⟨by have := HI.out.1; rwa [List.take_length] at this, rfl⟩, HI.out.2⟩
set_option maxHeartbeats 1000000 in
theorem ContainsFunc_cols (A : Option Addr) (c : Nat) (cs : List (Int × Bool)) (w : World) (hr : KReads w w.heap.size A cs) (hn : cs.length ≤ 1000000) :
    Calls Tryz.prog 55 #[.slice A cs.length c, .func (.func 56) #[] #[]] w fun e w' => e = .returned (.bool (cs.any fun q => !okC q)) ∧ Below w.heap.size w w' := by
  have HX := Lib.hid (IndexFunc_cols A c cs w hr hn)
  clear hr
  go_enter Tryz.func55, Tryz.ntmps55
  go_wp2_with fail
  refine HX.out.mono ?_
  rintro e w1 ⟨z, rfl, hz, hb1⟩
  have HZ := Lib.hid hz.bool
  clear hz HX
  go_wp2_with fail
  go_ret
  exact ⟨ret_bool HZ.out, hb1⟩
set_option maxHeartbeats 1000000 in
theorem CheckCols_any (A : Option Addr) (c : Nat) (cs : List (Int × Bool)) (w : World) (hr : KReads w w.heap.size A cs) (hn : cs.length ≤ 1000000) :
    Calls Tryz.prog 20 #[.slice A cs.length c] w fun e w' => e = .returned (.int .i64 (colsE cs)) ∧ Below w.heap.size w w' := by
  have HX := Lib.hid (ContainsFunc_cols A c cs w hr hn)
  clear hr
  by_cases h1 : 16 < cs.length
  · have HE : Hid (colsE cs = 2) := if_pos h1
    go_enter Tryz.func20, Tryz.ntmps20
    go_wp2_with fail
    go_ret
    exact ⟨ret_int HE.out.symm, Below.refl _ _⟩
  · by_cases h2 : cs = []
    · subst h2
      go_enter Tryz.func20, Tryz.ntmps20
      go_wp2_with fail
      go_ret
      exact ⟨ret_int (by simp [colsE]), Below.refl _ _⟩
    · have h0 : 0 < cs.length := List.length_pos_iff.2 h2
      have h0b : ((cs.length : Int) == 0) = false := beq_eq_false_iff_ne.2 (by omega)
      have HE : Hid (colsE cs = if cs.any (fun q => !okC q) = true then 20 else 0) := by
        show _ = _
        unfold colsE
        rw [if_neg h1]
        simp only [h2, false_or]
      clear h2
      generalize cs.any (fun q => !okC q) = q at *
      go_enter Tryz.func20, Tryz.ntmps20
      go_wp2_with fail
      refine HX.out.mono ?_
      rintro e w1 ⟨rfl, hb⟩
      have HB := Lib.hid hb
      clear hb HX
      cases q
      · go_wp2_with fail
        go_ret
        exact ⟨ret_int (by rw [HE.out]; rfl), HB.out⟩
      · go_wp2_with fail
        go_ret
        exact ⟨ret_int (by rw [HE.out]; rfl), HB.out⟩
set_option maxHeartbeats 2000000 in
theorem RCols_any (A : Option Addr) (c : Nat) (cs : List (Int × Bool)) (w : World) (hr : KReads w w.heap.size A cs) (hn : cs.length ≤ 1000000) :
    Calls Tryz.prog 18 #[.slice A cs.length c] w fun e w' => e = .returned (.int .i64 (colsE cs)) ∧ w' = w := by
  have HR := Lib.hid hr
  clear hr
  by_cases h1 : 16 < cs.length
  · have HE : Hid (colsE cs = 2) := if_pos h1
    go_enter Tryz.func18, Tryz.ntmps18
    go_wp2_with fail
    go_ret
    exact ⟨ret_int HE.out.symm, rfl⟩
  · by_cases h2 : cs = []
    · subst h2
      go_enter Tryz.func18, Tryz.ntmps18
      go_wp2_with fail
      go_ret
      exact ⟨ret_int (by simp [colsE]), rfl⟩
    · have h0 : 0 < cs.length := List.length_pos_iff.2 h2
      have h0b : ((cs.length : Int) == 0) = false := beq_eq_false_iff_ne.2 (by omega)
      have HE : Hid (colsE cs = if cs.any (fun q => !okC q) = true then 20 else 0) := by
        show _ = _
        unfold colsE
        rw [if_neg h1]
        simp only [h2, false_or]
      clear h2
      go_enter Tryz.func18, Tryz.ntmps18
      go_wp2_with fail
      go_loop [3] (fun i => ∃ k : Nat, k ≤ cs.length ∧ i = .int .i64 k ∧ Hid ((cs.take k).any (fun q => !okC q) = false)) (fun i => cs.length - (intOf i).toNat)
      case atStart => exact ⟨0, Nat.zero_le _, rfl, Lib.hid (by simp)⟩
      case round =>
        obtain ⟨k, hk, rfl, HI⟩ := hrel
        by_cases hlt : k < cs.length
        · obtain ⟨b, o, rfl, hblk, c0, c1⟩ := HR.out.at_ hlt
          have HN := Lib.hid (fun h : (!okC cs[k]) = false => (by rw [any_take_snoc hlt, HI.out, h]; rfl : (cs.take (k + 1)).any (fun q => !okC q) = false))
          have HY := Lib.hid (fun h : (!okC cs[k]) = true => any_at (p := fun q => !okC q) hlt h)
          have HO : Hid (okC cs[k] = (cs[k].1 == 1 || cs[k].1 == 2 || cs[k].1 == 3)) := rfl
          generalize okC cs[k] = ok at *
          generalize cs[k].1 = m at *
          clear c1
          by_cases m1 : m = 1
          · have HN2 := Lib.hid (HN.out (by rw [HO.out, m1]; rfl))
            clear HN HY HO
            subst m1
            go_wp2_with fail
            go_round
            case rel => exact ⟨k + 1, by omega, by go_num, HN2⟩
            case measure => simp [intOf]; omega
          by_cases m2 : m = 2
          · have HN2 := Lib.hid (HN.out (by rw [HO.out, m2]; rfl))
            clear HN HY HO m1
            subst m2
            go_wp2_with fail
            go_round
            case rel => exact ⟨k + 1, by omega, by go_num, HN2⟩
            case measure => simp [intOf]; omega
          by_cases m3 : m = 3
          · have HN2 := Lib.hid (HN.out (by rw [HO.out, m3]; rfl))
            clear HN HY HO m1 m2
            subst m3
            go_wp2_with fail
            go_round
            case rel => exact ⟨k + 1, by omega, by go_num, HN2⟩
            case measure => simp [intOf]; omega
          have HY2 := Lib.hid (HY.out (by rw [HO.out]; simp [m1, m2, m3]))
          have e1 : (m != 1) = true := by simp [m1]
          have e2 : (m != 2) = true := by simp [m2]
          have e3 : (m != 3) = true := by simp [m3]
          clear HN HY HO m1 m2 m3
          go_wp2_with fail
          go_ret
          exact ⟨ret_int (by rw [HE.out, HY2.out]; rfl), rfl⟩
        · have HA2 : Hid (cs.any (fun q => !okC q) = false) := by
            have := HI.out
            rwa [List.take_of_length_le (by omega)] at this
          go_wp2_with fail
          go_ret
          exact ⟨ret_int (by rw [HE.out, HA2.out]; rfl), rfl⟩
set_option maxHeartbeats 1000000 in
theorem fits_any (v : V) (q : Int × Bool) (w : World) :
    Calls Tryz.prog 59 #[.agg #[.int .i64 v.k, .int .i64 v.n, .string v.s], .agg #[.int .i64 q.1, .bool q.2]] w fun e w' => e = .returned (.bool (fitB v q)) ∧ Below w.heap.size w w' := by
  obtain ⟨k, n, s⟩ := v
  obtain ⟨m, b⟩ := q
  by_cases h1 : k = m
  · have HE : Hid (fitB ⟨k, n, s⟩ (m, b) = true) := by show _ = _; simp [fitB, h1]
    have e1 : (k == m) = true := by simp [h1]
    clear h1
    go_enter Tryz.func59, Tryz.ntmps59
    go_wp2
    go_ret
    exact ⟨by rw [HE.out]; rfl, al (al (Below.refl _ _) _) _⟩
  · have HE : Hid (fitB ⟨k, n, s⟩ (m, b) = (b && k == 0)) := by show _ = _; simp [fitB, h1]
    have e1 : (k == m) = false := by simp [h1]
    clear h1
    cases b
    · go_enter Tryz.func59, Tryz.ntmps59
      go_wp2
      go_ret
      exact ⟨by rw [HE.out]; rfl, al (al (Below.refl _ _) _) _⟩
    · generalize hq : (k == 0) = q at *
      go_enter Tryz.func59, Tryz.ntmps59
      go_wp2
      go_ret
      exact ⟨by rw [HE.out]; rfl, al (al (Below.refl _ _) _) _⟩
end Go.Proofs.YtapnnheggjahlaaGreatDoor
