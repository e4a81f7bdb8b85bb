/-
  Rw6: CONTRACT: rows.written: the string of a row.
  Rw7: CONTRACT: rows.counts: how often each row is there, by its string.
-/
import Derived.Test.YtapnnheggjahlaaGreatDoorGF
import Derived.Test.YtapnnheggjahlaaGreatDoorBld
import Derived.Test.YtapnnheggjahlaaGreatDoorGD
import Derived.Maps.OwnOps
import Derived.Maps.Views
import Derived.StringKeys
namespace Go.Proofs.YtapnnheggjahlaaGreatDoor
open Go.RowKit

/-- a value that may come in -/
def V.fine (v : V) : Prop := v.ok = true ∧ I64 v.n
abbrev strV (v : V) : List UInt8 := strB v.k v.n v.s
/-- what stands when k values are written -/
def rowPre (r : List V) : Nat → List UInt8
  | 0 => [40]
  | k + 1 => (rowPre r k ++ if 0 < k then [44, 32] else []) ++ strV (r[k]?.getD zV)
/-- the string of a row -/
def rowS (r : List V) : List UInt8 := rowPre r r.length ++ [41]
theorem replQ_len (l : List UInt8) : (Lib.replaceAll l [39] [39, 39]).length ≤ 2 * l.length := by
  rw [all_quote]
  have := quote_len l
  omega
theorem BAt.below {B b : Nat} {bs : List Value} {w w' : World} (h : BAt B b bs w) (hb : Below w.heap.size w w') : BAt B b bs w' := by
  have hlt := Lib.BuilderAt.lt h
  obtain ⟨hB, v, hbk, hown, hne⟩ := h
  exact ⟨hB, v, (hb.block b hlt).trans hbk, own_below hown hb, hne⟩
theorem strV_len {v : V} (h : v.fine) : (strV v).length ≤ 1000 := by
  unfold strV strB
  obtain ⟨h1, h2⟩ := h
  split
  · have := (itoa_len v.n h2).1; omega
  · split
    · have h3 := replQ_len v.s.data.toList
      have h4 : v.s.data.toList.length ≤ 200 := by
        rename_i hk3
        unfold V.ok okVal okText at h1
        simp only [hk3] at h1
        simp at h1
        simpa using h1.2.1
      simp only [List.length_cons, List.length_append, List.length_nil]
      omega
    · split
      · decide
      · split <;> decide
theorem rowPre_len {r : List V} (h : ∀ v ∈ r, v.fine) : ∀ k, k ≤ r.length → (rowPre r k).length ≤ 1 + 1002 * k
  | 0, _ => by simp [rowPre]
  | k + 1, hk => by
    have h1 := rowPre_len h k (by omega)
    have h2 := strV_len (h r[k] (List.getElem_mem (by omega)))
    have h3 : r[k]?.getD zV = r[k] := by simp [show k < r.length by omega]
    simp only [rowPre, List.length_append, h3]
    split <;> simp <;> omega

set_option maxHeartbeats 1000000 in
theorem written_any (A : Option Addr) (c : Nat) (r : List V) (w : World) (hG : G w) (hr : VReads w w.heap.size A r) (hf : ∀ v ∈ r, v.fine) (hn : r.length ≤ 1000000) :
    Calls Tryz.prog 66 #[.slice A r.length c] w fun e w' => e = .returned (.string ⟨(rowS r).toArray⟩) ∧ Below w.heap.size w w' := by
  have HG := Lib.hid hG
  have HR := Lib.hid hr
  have HF := Lib.hid hf
  clear hG hr hf
  go_enter Tryz.func66, Tryz.ntmps66
  go_wp2_with fail
  have hb0 : IsB w.heap.size w.heap.size [] (w.alloc (.cells #[.pointer none, .slice none 0 0] 110)) := .inl ⟨Nat.le_refl _, .slice none 0 0, Blk.new _ _ _, World.ownsRow_nil _ _ _ _, by simp [Value.ownBlock]⟩
  refine (WriteByte_any w.heap.size w.heap.size [] 40 _ hb0 (by simp) (by simp)).mono ?_
  rintro e w1 ⟨rfl, hb1, hl1, -⟩
  have H1 := Lib.hid (And.intro hb1 ((al (Below.refl _ w) _).trans hl1))
  clear hb0 hb1 hl1
  go_wp2_with fail
  go_loopw [11] (fun i wr => ∃ k : Nat, k ≤ r.length ∧ i = .int .i64 k ∧ Hid (BAt w.heap.size w.heap.size (Lib.byteCells (rowPre r k)) wr ∧ Below w.heap.size w wr)) (fun i _ => r.length - (intOf i).toNat)
  case atStart => exact ⟨0, Nat.zero_le _, rfl, H1.out⟩
  case round =>
    obtain ⟨k, hk, rfl, HI⟩ := hrel
    clear H1
    by_cases hlt : k < r.length
    · obtain ⟨b, o, rfl, hblk, c0, c1, c2⟩ := (HR.out.below HI.out.2 HI.out.2.size).at_ hlt
      have hfk := HF.out r[k] (List.getElem_mem hlt)
      have hlen := rowPre_len HF.out k hk
      have hgd : r[k]?.getD zV = r[k] := by simp [hlt]
      have hsl := strV_len hfk
      have HN : Hid (rowPre r (k + 1) = (rowPre r k ++ if 0 < k then [44, 32] else []) ++ strV r[k]) := by show rowPre r (k + 1) = _; rw [rowPre, hgd]
      have HZ := Lib.hid (And.intro hfk (And.intro hlen hsl))
      clear hfk hlen hgd hsl
      by_cases hk0 : 0 < k
      · have HP : Hid (rowPre r (k + 1) = (rowPre r k ++ [44, 32]) ++ strV r[k]) := by have := HN.out; rwa [if_pos hk0] at this
        clear HN
        go_wp2_with fail
        have q1 : BAt w.heap.size w.heap.size (Lib.byteCells (rowPre r k)) (wr.alloc (.cells #[.int .i64 r[k].k, .int .i64 r[k].n, .string r[k].s] 78)) := by
          obtain ⟨hB, v, hbk, hown, hne⟩ := HI.out.1
          exact ⟨hB, v, Blk.alloc hbk _, hown.alloc _, hne⟩
        have q2 := Blk.new wr 78 #[.int .i64 r[k].k, .int .i64 r[k].n, .string r[k].s]
        have q3 : Below w.heap.size w (wr.alloc (.cells #[.int .i64 r[k].k, .int .i64 r[k].n, .string r[k].s] 78)) := al HI.out.2 _
        have hlt' := Lib.BuilderAt.lt HI.out.1
        refine (WriteString_any w.heap.size w.heap.size _ ⟨#[44, 32]⟩ _ (.inr q1) (by rw [Lib.byteCells_length]; have := HZ.out.2.1; simp [ByteArray.size]; omega) q3.size).mono ?_
        rintro e w2 ⟨rfl, hb2, hl2, hk2⟩
        have q5 := hk2 wr.heap.size _ _ _ (by omega) (by decide) q2
        have hb2 : BAt w.heap.size w.heap.size (Lib.byteCells (rowPre r k ++ [44, 32])) w2 := by rw [Lib.byteCells_append]; exact hb2
        clear hlt'
        have q6 : Blk w2 wr.heap.size 78 #[.int .i64 r[k].k, .int .i64 r[k].n, .string r[k].s] := q5
        obtain ⟨⟨e0, e1, e2⟩, -⟩ := q6.three
        have HQ := Lib.hid (And.intro hb2 (q3.trans hl2))
        clear q1 q2 q3 q6 q5 hb2 hl2 hk2
        go_wp2_with fail
        refine (String_right r[k].k r[k].n r[k].s _ (HG.out.thn HQ.out.2) HZ.out.1.1 HZ.out.1.2).mono ?_
        rintro e w3 ⟨rfl, hb3⟩
        have HQ3 := Lib.hid (And.intro (HQ.out.1.below hb3) (thn HQ.out.2 hb3))
        clear hb3 HQ e0 e1 e2
        go_wp2_with fail
        refine (WriteString_any w.heap.size w.heap.size _ ⟨(strB r[k].k r[k].n r[k].s).toArray⟩ _ (.inr HQ3.out.1) (by rw [Lib.byteCells_length]; have h1 := HZ.out.2.1; have h2 := HZ.out.2.2; simp [ByteArray.size, strV] at h1 h2 ⊢; omega) HQ3.out.2.size).mono ?_
        rintro e w4 ⟨rfl, hb4, hl4, -⟩
        have H4 : Hid (BAt w.heap.size w.heap.size (Lib.byteCells (rowPre r (k + 1))) w4 ∧ Below w.heap.size w w4) := by
          refine ⟨?_, HQ3.out.2.trans hl4⟩
          rw [HP.out, Lib.byteCells_append]
          exact hb4
        clear hb4 hl4 HQ3 HI HP HZ
        go_wp2_with fail
        go_roundw
        case rel => exact ⟨k + 1, by omega, by go_num, H4⟩
        case measure => simp [intOf]; omega
      · have HP : Hid (rowPre r (k + 1) = rowPre r k ++ strV r[k]) := by have := HN.out; rwa [if_neg hk0, List.append_nil] at this
        clear HN
        go_wp2_with fail
        have q1 : BAt w.heap.size w.heap.size (Lib.byteCells (rowPre r k)) (wr.alloc (.cells #[.int .i64 r[k].k, .int .i64 r[k].n, .string r[k].s] 78)) := by
          obtain ⟨hB, v, hbk, hown, hne⟩ := HI.out.1
          exact ⟨hB, v, Blk.alloc hbk _, hown.alloc _, hne⟩
        have q2 := Blk.new wr 78 #[.int .i64 r[k].k, .int .i64 r[k].n, .string r[k].s]
        have q3 : Below w.heap.size w (wr.alloc (.cells #[.int .i64 r[k].k, .int .i64 r[k].n, .string r[k].s] 78)) := al HI.out.2 _
        have q6 : Blk (wr.alloc (.cells #[.int .i64 r[k].k, .int .i64 r[k].n, .string r[k].s] 78)) wr.heap.size 78 #[.int .i64 r[k].k, .int .i64 r[k].n, .string r[k].s] := q2
        obtain ⟨⟨e0, e1, e2⟩, -⟩ := q6.three
        have HQ := Lib.hid (And.intro q1 q3)
        clear q1 q2 q3 q6
        go_wp2_with fail
        refine (String_right r[k].k r[k].n r[k].s _ (HG.out.thn HQ.out.2) HZ.out.1.1 HZ.out.1.2).mono ?_
        rintro e w3 ⟨rfl, hb3⟩
        have HQ3 := Lib.hid (And.intro (HQ.out.1.below hb3) (thn HQ.out.2 hb3))
        clear hb3 HQ e0 e1 e2
        go_wp2_with fail
        refine (WriteString_any w.heap.size w.heap.size _ ⟨(strB r[k].k r[k].n r[k].s).toArray⟩ _ (.inr HQ3.out.1) (by rw [Lib.byteCells_length]; have h1 := HZ.out.2.1; have h2 := HZ.out.2.2; simp [ByteArray.size, strV] at h1 h2 ⊢; omega) HQ3.out.2.size).mono ?_
        rintro e w4 ⟨rfl, hb4, hl4, -⟩
        have H4 : Hid (BAt w.heap.size w.heap.size (Lib.byteCells (rowPre r (k + 1))) w4 ∧ Below w.heap.size w w4) := by
          refine ⟨?_, HQ3.out.2.trans hl4⟩
          rw [HP.out, Lib.byteCells_append]
          exact hb4
        clear hb4 hl4 HQ3 HI HP HZ
        go_wp2_with fail
        go_roundw
        case rel => exact ⟨k + 1, by omega, by go_num, H4⟩
        case measure => simp [intOf]; omega
    · have hkn : k = r.length := by omega
      subst hkn
      have hlen := rowPre_len HF.out r.length (Nat.le_refl _)
      go_wp2_with fail
      refine (WriteByte_any w.heap.size w.heap.size _ 41 _ (.inr HI.out.1) (by rw [Lib.byteCells_length]; omega) HI.out.2.size).mono ?_
      rintro e w4 ⟨rfl, hb4, hl4, -⟩
      have hb4 : BAt w.heap.size w.heap.size (Lib.byteCells (rowS r)) w4 := by rw [rowS, Lib.byteCells_append]; exact hb4
      have H4 := Lib.hid (And.intro hb4 (HI.out.2.trans hl4))
      clear hb4 hl4 hlen HI
      go_wp2_with fail
      refine (Tryz.Builder_String_any w.heap.size w.heap.size (rowS r) _ (.inr H4.out.1) H4.out.2.size).mono ?_
      rintro e w5 ⟨rfl, hb5⟩
      go_wp2_with fail
      go_ret
      exact ⟨rfl, H4.out.2.trans hb5⟩
end Go.Proofs.YtapnnheggjahlaaGreatDoor
namespace Go.Proofs.YtapnnheggjahlaaGreatDoor
open Go.RowKit

/-- how many rows have this string -/
def cnt (key : List UInt8) (L : List (List V)) : Nat := (L.filter fun r => rowS r == key).length
theorem cnt_le (key : List UInt8) (L : List (List V)) : cnt key L ≤ L.length := List.length_filter_le _ _
theorem cnt_snoc (key : List UInt8) (L : List (List V)) (r : List V) : cnt key (L ++ [r]) = cnt key L + if rowS r = key then 1 else 0 := by
  unfold cnt
  rw [List.filter_append, List.length_append]
  by_cases h : rowS r = key
  · simp [h]
  · simp [h]
/-- block b is a map that counts the rows L -/
def CMap (w : World) (b n : Nat) (L : List (List V)) : Prop :=
  ∃ D : DataW Unit, w.ownsMap Tryz.prog 9 (plainElem Tryz.prog 3) b n D ∧ (∀ key, D.atKey (.string key) (.lit (.int .i64 0)) = .lit (.int .i64 (cnt key L))) ∧ ∀ k, Maps.has D k = true → ∃ key, k = .string key ∧ 0 < cnt key L
theorem CMap.below {w w' : World} {b n : Nat} {L : List (List V)} (h : CMap w b n L) (hb : Below w.heap.size w w') : CMap w' b n L := by
  obtain ⟨D, h1, h2⟩ := h
  exact ⟨D, h1.kept (row := none) ⟨hb.os, hb.tape, hb.output, hb.size, fun i hi _ => hb.block i hi⟩ (by simp), h2⟩
theorem ownsMap_isMap {w : World} {P : Program} {k : TypeId} {R : Value → Option (DataW Unit × List MemPlace)} {b n : Nat} {D : DataW Unit} (h : w.ownsMap P k R b n D) : Maps.IsMap D := by
  obtain ⟨es, clock, _, _, _, e⟩ := h
  exact ⟨_, e⟩
theorem rowS_len {r : List V} (h : ∀ v ∈ r, v.fine) : (rowS r).length ≤ 2 + 1002 * r.length := by
  have := rowPre_len h r.length (Nat.le_refl _)
  simp only [rowS, List.length_append, List.length_cons, List.length_nil]
  omega
/-- rows that may come in -/
def FineL (L : List (List V)) : Prop := ∀ r ∈ L, r.length ≤ 1000000 ∧ ∀ v ∈ r, v.fine
theorem keyS (r : List V) (h : r.length ≤ 1000000 ∧ ∀ v ∈ r, v.fine) : keyOf Tryz.prog 9 (.string ⟨(rowS r).toArray⟩) = some (.string (rowS r)) := by
  have h1 := rowS_len h.2
  rw [WideMaps.keyOf_string_mk Tryz.underlying9 (by unfold maxLen; simp [ByteArray.size]; omega)]

theorem wf_i64 {z : Int} (h0 : -9223372036854775808 ≤ z) (h1 : z ≤ 9223372036854775807) : (Lit.int .i64 z).wf = true := by
  simp [Lit.wf, IntKind.min, IntKind.max, IntKind.signed, IntKind.bits]
  omega
set_option maxHeartbeats 1000000 in
set_option maxRecDepth 100000 in
theorem counts_any (A : Option Addr) (c : Nat) (L : List (List V)) (w : World) (hG : G w) (hr : LReads w w.heap.size A L) (hf : FineL L) (hL : L.length ≤ 20000) :
    Calls Tryz.prog 65 #[.slice A L.length c] w fun e w' => ∃ b, e = .returned (.map (some b)) ∧ w.heap.size ≤ b ∧ CMap w' b L.length L ∧ Below w.heap.size w w' := by
  have HG := Lib.hid hG
  have HR := Lib.hid hr
  have HF := Lib.hid hf
  clear hG hr hf
  have hmm := @run_makeMap Tryz.prog
  go_enter Tryz.func65, Tryz.ntmps65
  go_wp2_with fail
  go_loopw [9] (fun i wr => ∃ k : Nat, k ≤ L.length ∧ i = .int .i64 k ∧ Hid (CMap wr w.heap.size k (L.take k) ∧ Below w.heap.size w wr)) (fun i _ => L.length - (intOf i).toNat)
  case atStart => exact ⟨0, Nat.zero_le _, rfl, ⟨.map [], World.ownsMap_made _ _ _ _, (fun key => by simp [cnt, DataW.atKey]), fun k h => by simp [Maps.has] at h⟩, al (Below.refl _ _) _⟩
  case round =>
    obtain ⟨k, hk, rfl, HI⟩ := hrel
    by_cases hlt : k < L.length
    · obtain ⟨b, o, Ar, cr, rfl, hblk, hcell, hpl, hv⟩ := (HR.out.below HI.out.2 HI.out.2.size).at_ hlt
      have hfk := HF.out L[k] (List.getElem_mem hlt)
      have HV := Lib.hid (And.intro hv hfk)
      have hkey := keyS L[k] hfk
      have HK := Lib.hid hkey
      clear hv hfk hpl hkey
      go_wp2_with fail
      refine (written_any Ar cr L[k] _ (HG.out.thn HI.out.2) HV.out.1 HV.out.2.2 HV.out.2.1).mono ?_
      rintro e w1 ⟨rfl, hb1⟩
      have hI := HI.out
      obtain ⟨D, hown, hat0, hhas⟩ := hI.1.below hb1
      have HH := Lib.hid hhas
      have HB1 := Lib.hid (thn hI.2 hb1)
      have HA := Lib.hid hat0
      have hcl := cnt_le (rowS L[k]) (L.take k)
      rw [List.length_take] at hcl
      have hcb : cnt (rowS L[k]) (L.take k) ≤ 20000 := by omega
      clear hI hb1 hat0 hcl hhas
      go_wp2_with (first
        | (at_lookup; refine wpList_lookup_own_int _ rfl _ _ 93 rfl 9 3 .i64 (Maps.string_keyed Tryz.underlying9) Tryz.underlying93 Tryz.underlying3 (Tryz.zeroValue3 _) w.heap.size k D rfl hown _ _ rfl HK.out ?_; intro c hat hwc; obtain rfl : c = (cnt (rowS L[k]) (L.take k) : Int) := (by rw [HA.out] at hat; injection hat with hat; injection hat with _ hat; exact hat.symm); clear hat hwc)
        | (at_mapUpdate; refine wpList_mapUpdate_own _ rfl _ _ _ 93 rfl 9 3 (Maps.string_keyed Tryz.underlying9) Tryz.underlying93 _ w.heap.size k D rfl hown (by unfold maxLen; omega) _ _ _ rfl rfl HK.out _ [] (plainElem_int Tryz.underlying3 (wf_i64 (by omega) (by omega))) ?_; intro w2 hown1 hgrow1))
      have HN : Hid (CMap w2 w.heap.size (k + 1) (L.take (k + 1)) ∧ Below w.heap.size w w2) := by
        refine ⟨⟨_, hown1, fun key => ?_, fun k0 hk0 => ?_⟩, HB1.out.grown hgrow1 HB1.out.size (fun j e => by injection e with e; omega)⟩
        rotate_left
        · by_cases e : k0 = .string (rowS L[k])
          · refine ⟨_, e, ?_⟩
            rw [List.take_succ_eq_append_getElem hlt, cnt_snoc, if_pos rfl]
            omega
          · rw [Maps.has_put_other e] at hk0
            obtain ⟨key, e1, e2⟩ := HH.out k0 hk0
            refine ⟨key, e1, ?_⟩
            rw [List.take_succ_eq_append_getElem hlt, cnt_snoc]
            omega
        rw [List.take_succ_eq_append_getElem hlt, cnt_snoc]
        by_cases e : rowS L[k] = key
        · subst e
          rw [Maps.atKey_put_same (k := .string (rowS L[k])) (ownsMap_isMap hown) (by simp [WideAt.IsKeyLit])]
          simp
        · rw [Maps.atKey_put_other (fun h => e (by injection h with h; exact h.symm)), HA.out]
          simp [e]
      clear hown hown1 hgrow1 HB1 HA HH hcb HI HV HK
      go_wp2_with fail
      go_roundw
      case rel => exact ⟨k + 1, by omega, by go_num, HN⟩
      case measure => simp [intOf]; omega
    · have hkn : k = L.length := by omega
      subst hkn
      go_wp2_with fail
      go_ret
      exact ⟨w.heap.size, rfl, Nat.le_refl _, by have := HI.out.1; rwa [List.take_length] at this, HI.out.2⟩
end Go.Proofs.YtapnnheggjahlaaGreatDoor
