/-
  RfR: CONTRACTS of the reference: the order of rows, whether two lists of rows are the same.
  StrR: CONTRACTS: rows.String; the law's row.
  RfL: CONTRACTS of the reference of rows: large, AllRight, List.
-/
import Derived.Test.YtapnnheggjahlaaGreatDoorGF
import Derived.Test.YtapnnheggjahlaaGreatDoorGJ
import Derived.Test.YtapnnheggjahlaaGreatDoorSets
import Derived.Test.YtapnnheggjahlaaGreatDoorGA
namespace Go.Proofs.YtapnnheggjahlaaGreatDoor
open Go.RowKit

set_option maxHeartbeats 1000000 in
theorem RCompare_rows (A A' : Option Addr) (c c' : Nat) (a b : List V) (w : World) (hr : VReads w w.heap.size A a) (hr' : VReads w w.heap.size A' b) (hfa : VFit a) (hfb : VFit b) (hn : a.length ≤ maxLen) (hn' : b.length ≤ maxLen) :
    Calls Tryz.prog 26 #[.slice A a.length c, .slice A' b.length c'] w fun e w' => e = .returned (.int .i64 (cmpR a b)) ∧ Below w.heap.size w w' := by
  have hn' := Nat.le_trans hn' (Nat.le_refl _)
  unfold maxLen at hn hn'
  have HR := Lib.hid (And.intro hr (And.intro hr' (And.intro hfa hfb)))
  clear hr hr' hfa hfb
  go_enter Tryz.func26, Tryz.ntmps26
  go_wp2
  go_loopw [5] (fun i wr => ∃ k : Nat, k ≤ a.length ∧ k ≤ b.length ∧ i = .int .i64 k ∧ Hid (a.take k = b.take k ∧ Below w.heap.size w wr)) (fun i _ => a.length - (intOf i).toNat)
  case atStart => exact ⟨0, Nat.zero_le _, Nat.zero_le _, rfl, rfl, Below.refl _ _⟩
  case round =>
    obtain ⟨k, hk, hkb, rfl, HI⟩ := hrel
    by_cases hlt : k < a.length
    · have d1 : decide ((k : Int) < (a.length : Int)) = true := by simp; omega
      by_cases hlb : k < b.length
      · have d2 : decide ((k : Int) < (b.length : Int)) = true := by simp; omega
        obtain ⟨p, o, rfl, hblk, c0, c1, c2⟩ := (HR.out.1.below HI.out.2 HI.out.2.size).at_ hlt
        obtain ⟨p', o', rfl, hblk', e0, e1, e2⟩ := (HR.out.2.1.below HI.out.2 HI.out.2.size).at_ hlb
        have X1 : ∀ x : Aft wr, x.w.cell? ⟨p, o + k * 3, none⟩ = some (.int .i64 a[k].k) := fun x => (x.h.cell (p := ⟨p, _, none⟩) hblk).trans c0
        have X2 : ∀ x : Aft wr, x.w.cell? ⟨p, o + k * 3 + 1, none⟩ = some (.int .i64 a[k].n) := fun x => (x.h.cell (p := ⟨p, _, none⟩) hblk).trans c1
        have X3 : ∀ x : Aft wr, x.w.cell? ⟨p, o + k * 3 + 2, none⟩ = some (.string a[k].s) := fun x => (x.h.cell (p := ⟨p, _, none⟩) hblk).trans c2
        have Y1 : ∀ x : Aft wr, x.w.cell? ⟨p', o' + k * 3, none⟩ = some (.int .i64 b[k].k) := fun x => (x.h.cell (p := ⟨p', _, none⟩) hblk').trans e0
        have Y2 : ∀ x : Aft wr, x.w.cell? ⟨p', o' + k * 3 + 1, none⟩ = some (.int .i64 b[k].n) := fun x => (x.h.cell (p := ⟨p', _, none⟩) hblk').trans e1
        have Y3 : ∀ x : Aft wr, x.w.cell? ⟨p', o' + k * 3 + 2, none⟩ = some (.string b[k].s) := fun x => (x.h.cell (p := ⟨p', _, none⟩) hblk').trans e2
        have HX : Hid (∀ x : Aft wr, Calls Tryz.prog 63 #[.agg #[.int .i64 a[k].k, .int .i64 a[k].n, .string a[k].s], .agg #[.int .i64 b[k].k, .int .i64 b[k].n, .string b[k].s]] x.w fun e w' => e = .returned (.int .i64 (cmpW a[k] b[k])) ∧ Below x.w.heap.size x.w w') := fun x => rCompare_any a[k].k a[k].n a[k].s b[k].k b[k].n b[k].s x.w (HR.out.2.2.1 _ (List.getElem_mem hlt)) (HR.out.2.2.2 _ (List.getElem_mem hlb))
        have HE := Lib.hid (fun h : cmpW a[k] b[k] = 0 => cmpR_same hlt hlb HI.out.1 h)
        have HN := Lib.hid (fun h : cmpW a[k] b[k] ≠ 0 => cmpR_at hlt hlb HI.out.1 h)
        clear c0 c1 c2 e0 e1 e2
        have hki : (k : Int) < (a.length : Int) := by omega
        have hkj : (k : Int) < (b.length : Int) := by omega
        go_wp2_with fail
        refine region_aft (by kernel_rfl) (by kernel_rfl) ?_
        repeat (go_big_quiet_step ((exact aft_call (HX.out _))))
        refine wpQuiet_nil ?_
        intro x9
        have W9 := Lib.hid (thn HI.out.2 x9.h)
        clear X1 X2 X3 Y1 Y2 Y3 HX
        generalize cmpW a[k] b[k] = r at *
        by_cases hr0 : r = 0
        · have HE2 := Lib.hid (HE.out hr0)
          subst hr0
          clear HE HN
          go_wp2_with fail
          go_roundw
          case rel => exact ⟨k + 1, by omega, by omega, by go_num, HE2.out, W9.out⟩
          case measure => simp [intOf]; omega
        · have hrb : (r != 0) = true := by simp [hr0]
          have HN2 := Lib.hid (HN.out hr0)
          clear hr0 HN HE
          go_wp2_with fail
          go_ret
          exact ⟨ret_int HN2.out.symm, W9.out⟩
      · have d2 : decide ((k : Int) < (b.length : Int)) = false := by simp; omega
        have HM := Lib.hid (cmpR_more hlt (by omega) HI.out.1)
        have hne : ((a.length : Int) != (b.length : Int)) = true := by simp; omega
        have hnl : decide (a.length < b.length) = false := by simp; omega
        have d3 : decide (k < b.length) = false := by simpa using hlb
        clear hlb d2
        go_wp2_with fail
        go_ret
        exact ⟨ret_int HM.out.symm, HI.out.2⟩
    · have d1 : decide ((k : Int) < (a.length : Int)) = false := by simp; omega
      have hka : k = a.length := by omega
      subst hka
      have HM := Lib.hid (cmpR_end hkb (by have := HI.out.1; rwa [List.take_length] at this))
      by_cases hll : a.length < b.length
      · have HM2 : Hid (cmpR a b = -1) := by have := HM.out; rwa [if_pos hll] at this
        have hne : ((a.length : Int) != (b.length : Int)) = true := by simp; omega
        have hnl : decide ((a.length : Int) < (b.length : Int)) = true := by simp; omega
        clear HM
        go_wp2_with fail
        go_ret
        exact ⟨ret_int HM2.out.symm, HI.out.2⟩
      · have HM2 : Hid (cmpR a b = 0) := by have := HM.out; rwa [if_neg hll] at this
        have hne : ((a.length : Int) != (b.length : Int)) = false := by simp; omega
        clear HM
        go_wp2_with fail
        go_ret
        exact ⟨ret_int HM2.out.symm, HI.out.2⟩

/-- how rows may come in: a slice of rows, nil or not -/
theorem lists_end {a b : List (List V)} {k : Nat} (h : a.take k = b.take k) (h1 : k = a.length) (h2 : a.length = b.length) : a = b := by
  subst h1
  rw [List.take_length, h2, List.take_length] at h
  exact h
set_option maxHeartbeats 1000000 in
theorem REqual_any (A A' : Option Addr) (c c' : Nat) (a b : List (List V)) (w : World) (hr : LReads w w.heap.size A a) (hr' : LReads w w.heap.size A' b) (hfa : ∀ r ∈ a, r.length ≤ maxLen ∧ VFit r) (hfb : ∀ r ∈ b, r.length ≤ maxLen ∧ VFit r) (hn : a.length ≤ maxLen) :
    Calls Tryz.prog 27 #[.slice A a.length c, .slice A' b.length c'] w fun e w' => e = .returned (.bool (decide (a = b))) ∧ Below w.heap.size w w' := by
  unfold maxLen at hn
  have HR := Lib.hid (And.intro hr (And.intro hr' (And.intro hfa hfb)))
  clear hr hr' hfa hfb
  by_cases hl : a.length = b.length
  · have hne : ((a.length : Int) != (b.length : Int)) = false := by simp; omega
    have HL := Lib.hid hl
    clear hl
    go_enter Tryz.func27, Tryz.ntmps27
    go_wp2
    go_loopw [5] (fun i wr => ∃ k : Nat, k ≤ a.length ∧ i = .int .i64 k ∧ Hid (a.take k = b.take k ∧ Below w.heap.size w wr)) (fun i _ => a.length - (intOf i).toNat)
    case atStart => exact ⟨0, Nat.zero_le _, rfl, rfl, Below.refl _ _⟩
    case round =>
      obtain ⟨k, hk, rfl, HI⟩ := hrel
      by_cases hlt : k < a.length
      · have hlb : k < b.length := by rw [← HL.out]; exact hlt
        obtain ⟨p, o, Ap, cp, rfl, hblk, hc, _, hv⟩ := (HR.out.1.below HI.out.2 HI.out.2.size).at_ hlt
        obtain ⟨p', o', Aq, cq, rfl, hblk', hc', _, hv'⟩ := (HR.out.2.1.below HI.out.2 HI.out.2.size).at_ hlb
        have X1 : ∀ x : Aft wr, x.w.cell? ⟨p, o + k, none⟩ = some (.slice Ap a[k].length cp) := fun x => (x.h.cell (p := ⟨p, _, none⟩) hblk).trans hc
        have Y1 : ∀ x : Aft wr, x.w.cell? ⟨p', o' + k, none⟩ = some (.slice Aq b[k].length cq) := fun x => (x.h.cell (p := ⟨p', _, none⟩) hblk').trans hc'
        have hfa := HR.out.2.2.1 a[k] (List.getElem_mem hlt)
        have hfb := HR.out.2.2.2 b[k] (List.getElem_mem hlb)
        have HX : Hid (∀ x : Aft wr, Calls Tryz.prog 26 #[.slice Ap a[k].length cp, .slice Aq b[k].length cq] x.w fun e w' => e = .returned (.int .i64 (cmpR a[k] b[k])) ∧ Below x.w.heap.size x.w w') := fun x => RCompare_rows Ap Aq cp cq a[k] b[k] x.w (hv.below x.h x.h.size) (hv'.below x.h x.h.size) hfa.2 hfb.2 hfa.1 hfb.1
        have HE := Lib.hid (fun h : cmpR a[k] b[k] = 0 => (by rw [List.take_succ_eq_append_getElem hlt, List.take_succ_eq_append_getElem hlb, HI.out.1, cmpR_eq _ _ h] : a.take (k + 1) = b.take (k + 1)))
        have HN := Lib.hid (fun h : cmpR a[k] b[k] ≠ 0 => (decide_eq_false (fun e => h (by subst e; exact cmpR_self _)) : decide (a = b) = false))
        have hki : (k : Int) < (a.length : Int) := by omega
        have hkj : (k : Int) < (b.length : Int) := by omega
        clear hc hc' hv hv' hfa hfb
        go_wp2_with fail
        refine region_aft (by kernel_rfl) (by kernel_rfl) ?_
        repeat (go_big_quiet_step ((exact aft_call (HX.out _))))
        refine wpQuiet_nil ?_
        intro x9
        have W9 := Lib.hid (thn HI.out.2 x9.h)
        clear X1 Y1 HX
        generalize cmpR a[k] b[k] = r at *
        by_cases hr0 : r = 0
        · have HE2 := Lib.hid (HE.out hr0)
          subst hr0
          clear HE HN
          go_wp2_with fail
          go_roundw
          case rel => exact ⟨k + 1, by omega, by go_num, HE2.out, W9.out⟩
          case measure => simp [intOf]; omega
        · have hrb : (r != 0) = true := by simp [hr0]
          have HN2 := Lib.hid (HN.out hr0)
          clear hr0 HN HE
          go_wp2_with fail
          go_ret
          exact ⟨ret_bool HN2.out.symm, W9.out⟩
      · have hka : k = a.length := by omega
        have HM : Hid (decide (a = b) = true) := decide_eq_true (lists_end HI.out.1 hka HL.out)
        go_wp2_with fail
        go_ret
        exact ⟨ret_bool HM.out.symm, HI.out.2⟩
  · have hne : ((a.length : Int) != (b.length : Int)) = true := by simp; omega
    have HN : Hid (decide (a = b) = false) := decide_eq_false fun e => hl (by rw [e])
    clear hl
    go_enter Tryz.func27, Tryz.ntmps27
    go_wp2
    go_ret
    exact ⟨ret_bool HN.out.symm, Below.refl _ _⟩
end Go.Proofs.YtapnnheggjahlaaGreatDoor
namespace Go.Proofs.YtapnnheggjahlaaGreatDoor
open Go.RowKit

/-- the string of rows -/
def strR (L : List (List V)) : List UInt8 := (L.map fun r => rowS r ++ [10]).flatten
theorem strR_snoc (L : List (List V)) (r : List V) : strR (L ++ [r]) = (strR L ++ rowS r) ++ [10] := by simp [strR]
theorem strR_take_le (L : List (List V)) (k : Nat) : (strR (L.take k)).length ≤ (strR L).length := by
  have e : strR L = strR (L.take k) ++ strR (L.drop k) := by
    unfold strR
    rw [← List.flatten_append, ← List.map_append, List.take_append_drop]
  rw [e, List.length_append]
  omega
theorem IsB.below {B b : Nat} {bs : List Value} {w w' : World} (h : IsB B b bs w) (hb : Below w.heap.size w w') : IsB B b bs w' := by
  have go : ∀ p, Lib.BuilderAt 110 5 B b p bs w → Lib.BuilderAt 110 5 B b p bs w' := fun p h => by
    have hlt := Lib.BuilderAt.lt h
    obtain ⟨hB, v, hbk, hown, hne⟩ := h
    exact ⟨hB, v, (hb.block b hlt).trans hbk, own_below hown hb, hne⟩
  exact h.imp (go _) (go _)
/-- what String gives -/
def strRes (L : List (List V)) : Value := if 20000 < (strR L).length then .tuple #[.string ⟨#[]⟩, .int .i64 2] else .tuple #[.string ⟨(strR L).toArray⟩, .int .i64 0]

set_option maxHeartbeats 2000000 in
theorem StringR_ok (A : Option Addr) (c : Nat) (L : List (List V)) (w : World) (hG : G w) (hr : LReads w w.heap.size A L) (hi : InL L) (h0 : chkR [L] = 0) :
    Calls Tryz.prog 44 #[.slice A L.length c] w fun e w' => e = .returned (strRes L) ∧ Below w.heap.size w w' := by
  have HA := Lib.hid (And.intro hG (And.intro hr (And.intro hi h0)))
  have HF := Lib.hid (fine_of h0 (L := L) (by simp) hi)
  have hLl : L.length ≤ 20000 := HF.out.2.1
  have he : (chkR [L] != 0) = false := by simp [h0]
  clear hG hr hi h0
  go_enter Tryz.func44, Tryz.ntmps44
  go_wp2_with fail
  have q1 := Blk.new w 23 #[.slice A L.length c]
  have q2 : Below w.heap.size w (w.alloc (.cells #[.slice A L.length c] 23)) := al (Below.refl _ _) _
  have q3 := LLReads.one q1 (HA.out.2.1.below q2 q2.size)
  refine (checkR_any _ _ [L] _ q3 (fun X hX => ?_) (by simp)).mono ?_
  · simp only [List.mem_cons, List.not_mem_nil, or_false] at hX
    subst hX
    exact HA.out.2.2.1.fit
  rintro e w1 ⟨rfl, hb1⟩
  have W1 := Lib.hid (thn q2 hb1)
  clear q1 q2 q3 hb1
  go_wp2_with fail
  obtain ⟨b, hb⟩ : ∃ b, b = w1.heap.size := ⟨_, rfl⟩
  have H1 : Hid (IsB b b (Lib.byteCells (strR (L.take 0))) (w1.alloc (.cells #[.pointer none, .slice none 0 0] 110)) ∧ Below w.heap.size w (w1.alloc (.cells #[.pointer none, .slice none 0 0] 110)) ∧ b ≤ (w1.alloc (.cells #[.pointer none, .slice none 0 0] 110)).heap.size) := ⟨.inl ⟨Nat.le_refl _, .slice none 0 0, by subst hb; exact Blk.new _ _ _, by simp [strR, Lib.byteCells]; exact World.ownsRow_nil _ _ _ _, by simp [Value.ownBlock]⟩, al W1.out _, by rw [hb]; simp⟩
  have hwb : w.heap.size ≤ b := by rw [hb]; exact W1.out.size
  rw [← hb]
  clear hb W1
  go_loopw [16] (fun i wr => ∃ k : Nat, k ≤ L.length ∧ i = .int .i64 k ∧ Hid ((strR (L.take k)).length ≤ 20000 ∧ IsB b b (Lib.byteCells (strR (L.take k))) wr ∧ Below w.heap.size w wr ∧ b ≤ wr.heap.size)) (fun i _ => L.length - (intOf i).toNat)
  case atStart => exact ⟨0, Nat.zero_le _, rfl, by simp [strR], H1.out⟩
  case round =>
    obtain ⟨k, hk, rfl, HI⟩ := hrel
    clear H1
    by_cases hlt : k < L.length
    · obtain ⟨p, o, Ar, cr, rfl, hblk, hcell, hpl, hv⟩ := (HA.out.2.1.below HI.out.2.2.1 HI.out.2.2.1.size).at_ hlt
      have hfk := HF.out.1 L[k] (List.getElem_mem hlt)
      have hrl := rowS_len hfk.2
      have h16 := HF.out.2.2 L[k] (List.getElem_mem hlt)
      have HN : Hid (strR (L.take (k + 1)) = (strR (L.take k) ++ rowS L[k]) ++ [10]) := by show strR _ = _; rw [List.take_succ_eq_append_getElem hlt, strR_snoc]
      have HX := Lib.hid (written_any Ar cr L[k] wr (HA.out.1.thn HI.out.2.2.1) hv hfk.2 hfk.1)
      have hrl2 : (rowS L[k]).length ≤ 20000 := by omega
      clear hpl hv hfk hrl h16
      go_wp2_with fail
      refine HX.out.mono ?_
      rintro e w2 ⟨rfl, hb2⟩
      have HQ := Lib.hid (And.intro (HI.out.2.1.below hb2) (And.intro (thn HI.out.2.2.1 hb2) (Nat.le_trans HI.out.2.2.2 hb2.size)))
      clear hb2 HX
      go_wp2_with fail
      refine (WriteString_any b b _ ⟨(rowS L[k]).toArray⟩ _ HQ.out.1 (by rw [Lib.byteCells_length]; have := HI.out.1; simp [ByteArray.size]; omega) HQ.out.2.2).mono ?_
      rintro e w3 ⟨rfl, hb3, hl3, -⟩
      have hb3 : BAt b b (Lib.byteCells (strR (L.take k) ++ rowS L[k])) w3 := by rw [Lib.byteCells_append]; exact hb3
      have HQ3 := Lib.hid (And.intro hb3 (And.intro (HQ.out.2.1.trans (hl3.mono hwb)) (Nat.le_trans HQ.out.2.2 hl3.size)))
      clear hb3 hl3 HQ
      go_wp2_with fail
      refine (WriteByte_any b b _ 10 _ (.inr HQ3.out.1) (by rw [Lib.byteCells_length]; have := HI.out.1; simp; omega) HQ3.out.2.2).mono ?_
      rintro e w4 ⟨rfl, hb4, hl4, -⟩
      have hb4 : BAt b b (Lib.byteCells (strR (L.take (k + 1)))) w4 := by rw [HN.out, Lib.byteCells_append]; exact hb4
      have HQ4 := Lib.hid (And.intro hb4 (And.intro (HQ3.out.2.1.trans (hl4.mono hwb)) (Nat.le_trans HQ3.out.2.2 hl4.size)))
      clear hb4 hl4 HQ3 HN
      go_wp2_with fail
      refine (Tryz.Builder_Len b b _ _ (.inr HQ4.out.1)).mono ?_
      rintro e w5 ⟨rfl, rfl⟩
      rw [Lib.byteCells_length]
      obtain ⟨m, hm⟩ : ∃ m, m = (strR (L.take (k + 1))).length := ⟨_, rfl⟩
      rw [← hm]
      by_cases hbig : 20000 < m
      · have HE : Hid (strRes L = .tuple #[.string ⟨#[]⟩, .int .i64 2]) := by
          have := strR_take_le L (k + 1)
          show strRes L = _
          unfold strRes
          rw [if_pos (by omega)]
        have hd : decide ((20000 : Int) < (m : Int)) = true := by simp; omega
        clear hbig hm
        go_wp2_with fail
        go_ret2
        exact ⟨by rw [HE.out]; rfl, HQ4.out.2.1⟩
      · have hd : decide ((20000 : Int) < (m : Int)) = false := by simp; omega
        have HR : Hid ((strR (L.take (k + 1))).length ≤ 20000 ∧ IsB b b (Lib.byteCells (strR (L.take (k + 1)))) w5 ∧ Below w.heap.size w w5 ∧ b ≤ w5.heap.size) := ⟨by omega, .inr HQ4.out.1, HQ4.out.2.1, HQ4.out.2.2⟩
        clear hbig hm HQ4 HI
        go_wp2_with fail
        go_roundw
        case rel => exact ⟨k + 1, by omega, by go_num, HR⟩
        case measure => simp [intOf]; omega
    · have hkn : k = L.length := by omega
      subst hkn
      have hI := HI.out
      rw [List.take_length] at hI
      have HE : Hid (strRes L = .tuple #[.string ⟨(strR L).toArray⟩, .int .i64 0]) := by
        show strRes L = _
        unfold strRes
        rw [if_neg (by omega)]
      have HQ := Lib.hid hI
      clear hI HI
      go_wp2_with fail
      refine (Tryz.Builder_String_any b b (strR L) _ HQ.out.2.1 HQ.out.2.2.2).mono ?_
      rintro e w5 ⟨rfl, hb5⟩
      go_wp2_with fail
      go_ret2
      exact ⟨by rw [HE.out]; rfl, HQ.out.2.2.1.trans (hb5.mono hwb)⟩
set_option maxHeartbeats 1000000 in
theorem StringR_err (A : Option Addr) (c : Nat) (L : List (List V)) (w : World) (hr : LReads w w.heap.size A L) (hi : InL L) (h0 : chkR [L] ≠ 0) :
    Calls Tryz.prog 44 #[.slice A L.length c] w fun e w' => e = .returned (.tuple #[.string ⟨#[]⟩, .int .i64 (chkR [L])]) ∧ Below w.heap.size w w' := by
  have HA := Lib.hid (And.intro hr hi)
  have he : (chkR [L] != 0) = true := by simp [h0]
  clear hr hi h0
  go_enter Tryz.func44, Tryz.ntmps44
  go_wp2_with fail
  have q1 := Blk.new w 23 #[.slice A L.length c]
  have q2 : Below w.heap.size w (w.alloc (.cells #[.slice A L.length c] 23)) := al (Below.refl _ _) _
  have q3 := LLReads.one q1 (HA.out.1.below q2 q2.size)
  refine (checkR_any _ _ [L] _ q3 (fun X hX => ?_) (by simp)).mono ?_
  · simp only [List.mem_cons, List.not_mem_nil, or_false] at hX
    subst hX
    exact HA.out.2.fit
  rintro e w1 ⟨rfl, hb1⟩
  have W1 := Lib.hid (thn q2 hb1)
  clear q1 q2 q3 hb1
  go_wp2_with fail
  go_ret2
  exact ⟨rfl, W1.out⟩

/-- a row of numbers -/
def intV (n : Int) : V := ⟨1, n, ⟨#[]⟩⟩
theorem intV_fine {n : Int} (h : I64 n) : (intV n).fine := ⟨by simp [intV, V.ok, okVal], h⟩
set_option maxHeartbeats 1000000 in
theorem row_any (g c : Nat) (T : TypeId) (l : List Int) (w : World) (h : Blk w g T (l.map (Value.int .i64)).toArray) (hl : l.length ≤ 1000) :
    Calls Tryz.prog 60 #[.slice (some ⟨g, 0, none⟩) l.length c] w fun e w' => ∃ v, e = .returned v ∧ OwnR w' w.heap.size v (l.map intV) ∧ Below w.heap.size w w' := by
  obtain ⟨i0, hi, hz0, hz1, hz2⟩ := info_parts infoV
  have HB := Lib.hid h
  have hgl := h.lt
  clear h
  go_enter Tryz.func60, Tryz.ntmps60
  go_wp2
  go_loopw [3, 4] (fun v i wr => ∃ (k : Nat) (u : Value), u = v ∧ k ≤ l.length ∧ i = .int .i64 k ∧ Hid (OwnR wr w.heap.size u ((l.take k).map intV) ∧ Below w.heap.size w wr)) (fun _ i _ => l.length - (intOf i).toNat)
  case atStart => exact ⟨0, _, rfl, Nat.zero_le _, rfl, World.ownsRow_nil _ _ _ _, Below.refl _ _⟩
  case round =>
    obtain ⟨k, v, hv, hk, rfl, HI⟩ := hrel
    subst hv
    by_cases hlt : k < l.length
    · have hcell : wr.cell? ⟨g, k, none⟩ = some (.int .i64 l[k]) := by
        rw [HI.out.2.cell (p := ⟨g, k, none⟩) hgl, HB.out.cell k]
        simp [hlt]
      have hki : (k : Int) < (l.length : Int) := by omega
      go_wp2_with fail
      refine (rInt_any l[k] _).mono ?_
      rintro e w1 ⟨rfl, hb1⟩
      have hown : OwnR w1 w.heap.size v ((l.take k).map intV) := own_below HI.out.1 hb1
      have hbw := thn HI.out.2 hb1
      have hz : w.heap.size ≤ w1.heap.size := hbw.size
      have hlen : ((l.take k).map intV).length = k := by simp; omega
      have HW := Lib.hid (And.intro hown (And.intro hbw hlen))
      have q1 := Blk.new w1 78 #[.int .i64 1, .int .i64 l[k], .string ⟨#[]⟩]
      have q2 : VReads (w1.alloc (.cells #[.int .i64 1, .int .i64 l[k], .string ⟨#[]⟩] 78)) (w1.heap.size + 1) (some ⟨w1.heap.size, 0, none⟩) [intV l[k]] := VReads.one q1 (by omega)
      have HQ := Lib.hid q2.reads
      clear hcell hown hbw hlen q1 q2
      go_wp2_with (at_builtin; refine wpList_append_any _ rfl (.tmp 11) (.tmp 17) 34 rfl w.heap.size 78 i0 (.agg #[.int .i64 0, .int .i64 0, .string ⟨#[]⟩]) 3 32 Tryz.underlying34 hi hz0 hz1 hz2 rfl (by decide) _ _ _ rfl (HW.out.1.alloc _) (w1.heap.size + 1) _ 1 1 (vcells [intV l[k]]) rfl HQ.out ?c1 ?c2 ?c3 ?c4 ?_)
      case c1 => exact vcells_one _
      case c2 => rw [HW.out.2.2]; unfold maxLen; omega
      case c3 => rw [HW.out.2.2]; omega
      case c4 => simp; omega
      intro v2 w2 hown2 hgr2 _
      have HN : Hid (OwnR w2 w.heap.size v2 ((l.take (k + 1)).map intV) ∧ Below w.heap.size w w2) := by
        refine ⟨?_, (al HW.out.2.1 _).grown hgr2 (by simp; omega) fun r e => own_base HW.out.1 r e⟩
        rw [List.take_succ_eq_append_getElem hlt, List.map_append, List.map_cons, List.map_nil]
        show w2.ownsRow _ _ _ _ (List.length (_ ++ _)) (vcells (_ ++ _))
        rw [vcells_append, List.length_append, HW.out.2.2]
        rw [← List.map_take] at hown2
        exact hown2
      clear hown2 hgr2 HW HQ HI
      go_wp2_with fail
      go_roundw
      case rel => exact ⟨k + 1, _, rfl, by omega, by go_num, HN⟩
      case measure => simp [intOf]; omega
    · have hkn : k = l.length := by omega
      subst hkn
      have hI := HI.out
      rw [List.take_length] at hI
      have H1 := Lib.hid hI
      obtain ⟨ao, co, rfl⟩ := own_slice hI.1
      clear hI HI
      go_wp2_with fail
      go_ret
      exact ⟨_, rfl, H1.out⟩
end Go.Proofs.YtapnnheggjahlaaGreatDoor
namespace Go.Proofs.YtapnnheggjahlaaGreatDoor
open Go.RowKit

set_option maxHeartbeats 400000 in
theorem large_any (A : Option Addr) (c : Nat) (L : List (List V)) (w : World) (hr : LReads w w.heap.size A L) (hL : L.length ≤ maxLen) :
    Calls Tryz.prog 52 #[.slice A L.length c] w fun e w' => e = .returned (.bool (bigL L)) ∧ Below w.heap.size w w' := by
  have HR := Lib.hid hr
  clear hr
  unfold maxLen at hL
  go_enter Tryz.func52, Tryz.ntmps52
  by_cases hbig : 20000 < L.length
  · have HE : Hid (bigL L = true) := by show _ = _; unfold bigL; simp [hbig]
    go_wp2
    go_ret
    exact ⟨ret_bool HE.out.symm, Below.refl _ _⟩
  · go_wp2
    go_loop [3] (fun i => ∃ k : Nat, k ≤ L.length ∧ i = .int .i64 k ∧ Hid ((L.take k).any (fun r => decide (16 < r.length)) = false)) (fun i => L.length - (intOf i).toNat)
    case atStart => exact ⟨0, Nat.zero_le _, rfl, rfl⟩
    case round =>
      obtain ⟨k, hk, rfl, HI⟩ := hrel
      by_cases hlt : k < L.length
      · obtain ⟨b, o, Ar, cr, rfl, hblk, hc, _, _⟩ := HR.out.at_ hlt
        by_cases h16 : 16 < L[k].length
        · have HE : Hid (bigL L = true) := by
            show _ = _
            unfold bigL
            rw [Bool.or_eq_true]
            exact .inr (List.any_eq_true.2 ⟨L[k], List.getElem_mem hlt, by simpa using h16⟩)
          go_wp2
          go_ret
          exact ⟨ret_bool HE.out.symm, Below.refl _ _⟩
        · have HE : Hid ((L.take (k + 1)).any (fun r => decide (16 < r.length)) = false) := by
            show _ = _
            rw [List.take_succ_eq_append_getElem hlt, List.any_append, HI.out]
            simp only [List.any_cons, List.any_nil, Bool.or_false, Bool.false_or, decide_eq_false_iff_not]
            exact h16
          go_wp2
          go_round
          case rel => exact ⟨k + 1, by omega, by go_num, HE⟩
          case measure => simp [intOf]; omega
      · have HE : Hid (bigL L = false) := by
          show _ = _
          have h2 := HI.out
          rw [List.take_of_length_le (by omega)] at h2
          unfold bigL
          rw [h2]
          simp [hbig]
        go_wp2
        go_ret
        exact ⟨ret_bool HE.out.symm, Below.refl _ _⟩

set_option maxHeartbeats 400000 in
theorem RAllRight_any (A : Option Addr) (c : Nat) (L : List (List V)) (w : World) (hr : LReads w w.heap.size A L) (hf : LFit L) :
    Calls Tryz.prog 53 #[.slice A L.length c] w fun e w' => e = .returned (.bool (!badL L)) ∧ Below w.heap.size w w' := by
  have hL := hf.1
  have HR := Lib.hid (And.intro hr hf)
  clear hr hf
  unfold maxLen at hL
  go_enter Tryz.func53, Tryz.ntmps53
  go_wp2
  go_loopw [3] (fun i wr => ∃ k : Nat, k ≤ L.length ∧ i = .int .i64 k ∧ Hid (badL (L.take k) = false ∧ Below w.heap.size w wr)) (fun i _ => L.length - (intOf i).toNat)
  case atStart => exact ⟨0, Nat.zero_le _, rfl, rfl, Below.refl _ _⟩
  case round =>
    obtain ⟨k, hk, rfl, HI⟩ := hrel
    by_cases hlt : k < L.length
    · have hb := HI.out.2
      obtain ⟨b, o, Ar, cr, rfl, hblk, hc, _, hv⟩ := (HR.out.1.below hb hb.size).at_ hlt
      have hfr := HR.out.2.2 L[k] (List.getElem_mem hlt)
      have HV := Lib.hid (And.intro hv hfr)
      have HN : Hid (badL (L.take (k + 1)) = !(L[k].all V.ok)) := by
        show _ = _
        unfold badL
        rw [List.take_succ_eq_append_getElem hlt, List.any_append]
        have := HI.out.1
        unfold badL at this
        rw [this]
        simp only [List.any_cons, List.any_nil, Bool.or_false, Bool.false_or]
        rw [List.not_all_eq_any_not]
      have HN2 : Hid (L[k].all V.ok = false → badL L = true) := fun h => by
        unfold badL
        refine List.any_eq_true.2 ⟨L[k], List.getElem_mem hlt, ?_⟩
        rw [List.all_eq_false] at h
        obtain ⟨v, hv, h⟩ := h
        exact List.any_eq_true.2 ⟨v, hv, by simpa using h⟩
      clear hb hv hfr
      go_wp2_with fail
      refine (AllRight_any Ar cr L[k] wr HV.out.1 HV.out.2.2 HV.out.2.1).mono ?_
      rintro e w1 ⟨rfl, hb1⟩
      have HB1 := Lib.hid (thn HI.out.2 hb1)
      clear hb1
      generalize L[k].all V.ok = q at HN HN2
      cases q
      · go_wp2
        go_ret
        exact ⟨ret_bool (by rw [HN2.out (by simp)]; rfl), HB1.out⟩
      · go_wp2
        go_roundw
        case rel => exact ⟨k + 1, by omega, by go_num, HN.out, HB1.out⟩
        case measure => simp [intOf]; omega
    · have HE : Hid (badL L = false) := by
        have h2 := HI.out.1
        rw [List.take_of_length_le (by omega)] at h2
        exact h2
      go_wp2
      go_ret
      exact ⟨ret_bool (by rw [HE.out]; rfl), HI.out.2⟩

set_option maxHeartbeats 400000 in
theorem RList_any (A A' : Option Addr) (c c' : Nat) (L L2 : List (List V)) (w : World) (hr : LReads w w.heap.size A L) (hr2 : LReads w w.heap.size A' L2) (hf : LFit L) (hf2 : LFit L2) :
    Calls Tryz.prog 17 #[.slice A L.length c, .slice A' L2.length c'] w fun e w' => e = .returned (.int .i64 (chkR [L, L2])) ∧ Below w.heap.size w w' := by
  have HA := Lib.hid (And.intro hr (And.intro hr2 (And.intro hf hf2)))
  clear hr hr2 hf hf2
  have HE : Hid (chkR [L, L2] = if bigL L || bigL L2 then 2 else if badL L || badL L2 then 10 else 0) := by
    show _ = _
    unfold chkR
    simp only [List.any_cons, List.any_nil, Bool.or_false]
  go_enter Tryz.func17, Tryz.ntmps17
  go_wp2_with fail
  refine (large_any A c L w HA.out.1 HA.out.2.2.1.1).mono ?_
  rintro e w1 ⟨rfl, hb1⟩
  have B1 := Lib.hid hb1
  clear hb1
  generalize bigL L = p1 at HE
  cases p1
  case true =>
    go_wp2_with fail
    go_ret
    exact ⟨by rw [HE.out]; rfl, B1.out⟩
  case false =>
    go_wp2_with fail
    refine (large_any A' c' L2 w1 (HA.out.2.1.below B1.out B1.out.size) HA.out.2.2.2.1).mono ?_
    rintro e w2 ⟨rfl, hb1⟩
    have B2 := Lib.hid (thn B1.out hb1)
    clear hb1
    generalize bigL L2 = p2 at HE
    cases p2
    case true =>
      go_wp2_with fail
      go_ret
      exact ⟨by rw [HE.out]; rfl, B2.out⟩
    case false =>
      go_wp2_with fail
      refine (RAllRight_any A c L w2 (HA.out.1.below B2.out B2.out.size) HA.out.2.2.1).mono ?_
      rintro e w3 ⟨rfl, hb1⟩
      have B3 := Lib.hid (thn B2.out hb1)
      clear hb1
      generalize badL L = p3 at HE
      cases p3
      case true =>
        go_wp2_with fail
        go_ret
        exact ⟨by rw [HE.out]; rfl, B3.out⟩
      case false =>
        go_wp2_with fail
        refine (RAllRight_any A' c' L2 w3 (HA.out.2.1.below B3.out B3.out.size) HA.out.2.2.2).mono ?_
        rintro e w4 ⟨rfl, hb1⟩
        have B4 := Lib.hid (thn B3.out hb1)
        clear hb1
        generalize badL L2 = p4 at HE
        cases p4
        all_goals
          go_wp2_with fail
          go_ret
          exact ⟨by rw [HE.out]; rfl, B4.out⟩
end Go.Proofs.YtapnnheggjahlaaGreatDoor
