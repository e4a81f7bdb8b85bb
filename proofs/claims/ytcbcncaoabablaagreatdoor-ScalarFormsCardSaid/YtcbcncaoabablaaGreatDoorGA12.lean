/-
  Awake: CONTRACT of the statements' own helper awake: true, whatever came before.
  Cut: CONTRACTS of the statements' helper Cut.
  UniC: A variable that holds a value; '==' and '!=' of two values.
  RefC: CONTRACT of the reference: Compare.
-/
import Derived.Test.YtcbcncaoabablaaGreatDoorGA11
import Derived.Deep.RegionHeld3
import Derived.Test.YtcbcncaoabablaaGreatDoorGA04
namespace Go.Proofs.YtcbcncaoabablaaGreatDoor
open Go.RowKit

theorem rNull_exact (w : World) :
    Calls Tryz.prog 45 #[] w fun e w' => e = .returned (.agg #[.int .i64 0, .int .i64 0, .string ⟨#[]⟩]) ∧ w' = w.alloc (.cells #[.int .i64 0, .int .i64 0, .string ⟨#[]⟩] 25) := by
  go_enter Tryz.func45, Tryz.ntmps45
  go_wp2
  exact bodyPost_ret (v := .agg #[.int .i64 0, .int .i64 0, .string ⟨#[]⟩]) (by simp [results, Tryz.results45, go_sem]) rfl ⟨rfl, rfl⟩
theorem rFalse_exact (w : World) :
    Calls Tryz.prog 46 #[.bool false] w fun e w' => e = .returned (.agg #[.int .i64 2, .int .i64 0, .string ⟨#[]⟩]) ∧ w' = w.alloc (.cells #[.int .i64 2, .int .i64 0, .string ⟨#[]⟩] 25) := by
  go_enter Tryz.func46, Tryz.ntmps46
  go_wp2
  exact bodyPost_ret (v := .agg #[.int .i64 2, .int .i64 0, .string ⟨#[]⟩]) (by simp [results, Tryz.results46, go_sem]) rfl ⟨rfl, rfl⟩

theorem decDigits_7 : Lib.decDigits 7 = [55] := by rw [Lib.decDigits]; rfl
theorem parse_007 : Lib.parseIntB 64 [48, 48, 55] = .ok 7 := by decide +kernel
theorem read_007 : readV ⟨#[48, 48, 55]⟩ = ⟨1, 7, ⟨#[]⟩⟩ := by
  have h : numV ⟨#[48, 48, 55]⟩ = 7 := by
    unfold numV
    have e : (⟨#[48, 48, 55]⟩ : ByteArray).data.toList = [48, 48, 55] := rfl
    rw [e, parse_007]
  unfold readV
  rw [if_neg (by decide), if_neg (by decide), if_neg (by decide), if_neg (by decide), if_neg (by decide), h]
theorem parses_007 : parses ⟨#[48, 48, 55]⟩ = false := by
  unfold parses
  rw [read_007]
  have e : strB 1 7 ⟨#[]⟩ = [55] := by
    show Lib.itoa 7 = _
    unfold Lib.itoa
    rw [if_neg (by decide)]
    exact decDigits_7
  rw [e, ByteArray.toList_eq, ByteArray.toList_eq]
  decide
theorem str_its : strB 3 0 ⟨#[105, 116, 39, 115]⟩ = [39, 105, 116, 39, 39, 115, 39] := by
  have e : Lib.replaceAll [105, 116, 39, 115] [39] [39, 39] = [105, 116, 39, 39, 115] := by decide +kernel
  show 39 :: (Lib.replaceAll [105, 116, 39, 115] [39] [39, 39] ++ [39]) = _
  rw [e]; rfl

theorem join_tn : joinV false [⟨2, b2i true, ⟨#[]⟩⟩, ⟨0, 0, ⟨#[]⟩⟩] = ⟨0, 0, ⟨#[]⟩⟩ := by
  unfold joinV
  rw [if_neg, if_pos]
  · decide
  · simp [V.isE, veq, b2i]
theorem join_nil : joinV true [] = ⟨2, 0, ⟨#[]⟩⟩ := rfl

end Go.Proofs.YtcbcncaoabablaaGreatDoor
namespace Go.Proofs.YtcbcncaoabablaaGreatDoor
open Go.RowKit

theorem infoV : (Tryz.prog.info? 25).map (fun i => (i.zero, i.size, i.bytes)) = some (some (.agg #[.int .i64 0, .int .i64 0, .string ⟨#[]⟩]), 3, 32) := by kernel_rfl

/-- a value whose text is cut -/
def V.cut (v : V) : V := ⟨v.k, v.n, v.s.extract 0 (min (v.s.size : Int) 202).toNat⟩
def cut (m : Nat) (l : List V) : List V := (l.take m).map V.cut

theorem cut_succ {l : List V} {k : Nat} (h : k < l.length) : cut (k + 1) l = cut k l ++ [V.cut l[k]] := by
  unfold cut
  rw [List.take_succ_eq_append_getElem h, List.map_append]; rfl
end Go.Proofs.YtcbcncaoabablaaGreatDoor
namespace Go.Proofs.YtcbcncaoabablaaGreatDoor
open Go.RowKit

def zV : V := ⟨0, 0, ⟨#[]⟩⟩
/-- a variable that holds a value: its three cells -/
def C3 (w : World) (g : Nat) (a b : Int) (s : ByteArray) : Prop :=
  g < w.heap.size ∧ w.cell? ⟨g, 0, none⟩ = some (.int .i64 a) ∧ w.cell? ⟨g, 1, none⟩ = some (.int .i64 b) ∧ w.cell? ⟨g, 2, none⟩ = some (.string s)
theorem C3.thn {w w' : World} {g : Nat} {a b : Int} {s : ByteArray} (h : C3 w g a b s) (hb : Below w.heap.size w w') : C3 w' g a b s :=
  ⟨Nat.lt_of_lt_of_le h.1 hb.size, (hb.cell (p := ⟨g, 0, none⟩) h.1).trans h.2.1, (hb.cell (p := ⟨g, 1, none⟩) h.1).trans h.2.2.1, (hb.cell (p := ⟨g, 2, none⟩) h.1).trans h.2.2.2⟩
theorem C3.al {w : World} {g : Nat} {a b : Int} {s : ByteArray} (h : C3 w g a b s) (o : Obj) : C3 (w.alloc o) g a b s := h.thn ((Below.refl _ _).alloc (Nat.le_refl _) o)
theorem C3.new {w : World} {T : TypeId} {a b : Int} {s : ByteArray} : C3 (w.alloc (.cells #[.int .i64 a, .int .i64 b, .string s] T)) w.heap.size a b s :=
  have h := Blk.new w T #[.int .i64 a, .int .i64 b, .string s]
  ⟨h.lt, h.cell 0, h.cell 1, h.cell 2⟩

theorem veq_self (a b : Int) (s : ByteArray) : veq a b s a b s = true := by simp [veq]
theorem veq_iff {a b : Int} {s : ByteArray} {a' b' : Int} {s' : ByteArray} : veq a b s a' b' s' = true ↔ (⟨a, b, s⟩ : V) = ⟨a', b', s'⟩ := by
  unfold veq
  rw [ByteArray.toList_eq, ByteArray.toList_eq]
  obtain ⟨⟨x⟩⟩ := s
  obtain ⟨⟨y⟩⟩ := s'
  simp

theorem neqV (a b : Int) (s : ByteArray) (a' b' : Int) (s' : ByteArray) (w : World) :
    (binOp .neq 25 (.agg #[.int .i64 a, .int .i64 b, .string s]) (.agg #[.int .i64 a', .int .i64 b', .string s'])).run Tryz.prog w = .ok (.bool (!veq a b s a' b' s')) w := by
  have hS : Tryz.prog.underlying 25 = some (.struct (Tryz.prog.fieldsOf 25)) := by kernel_rfl
  have hp : Tryz.prog.stoodInHeld 25 = false := by kernel_rfl
  rw [run_neq_struct, show (10000 : Nat) = 9999 + 1 from rfl, run_equalIn_agg w 9999 25 _ _ hS hp]
  simp only [Program.fieldsOf, Tryz.underlying25]
  go_simp
  unfold veq
  by_cases h1 : a = a' <;> by_cases h2 : b = b' <;> by_cases h3 : s.toList = s'.toList <;> simp [h1, h2, h3]

end Go.Proofs.YtcbcncaoabablaaGreatDoor
namespace Go.Proofs.YtcbcncaoabablaaGreatDoor
open Go.RowKit

/-- equal beginnings are passed over -/
theorem cmpB_drop : ∀ (i : Nat) (a b : List UInt8), a.take i = b.take i → i ≤ a.length → i ≤ b.length → Lib.compareBytes a b = Lib.compareBytes (a.drop i) (b.drop i)
  | 0, a, b, _, _, _ => rfl
  | i + 1, [], b, _, h, _ => by simp at h
  | i + 1, _ :: _, [], _, _, h => by simp at h
  | i + 1, x :: a, y :: b, h, ha, hb => by
    simp only [List.take_succ_cons, List.cons.injEq] at h
    obtain ⟨rfl, ht⟩ := h
    have := cmpB_drop i a b ht (by simpa using ha) (by simpa using hb)
    simp only [Lib.compareBytes, List.drop_succ_cons, if_neg (UInt8.lt_irrefl x)]
    exact this
theorem cmpB_at {s s' : ByteArray} {i : Nat} (h : i < s.size) (h' : i < s'.size) (ht : s.data.toList.take i = s'.data.toList.take i) :
    (s[i] < s'[i] → Lib.compareBytes s.data.toList s'.data.toList = -1) ∧ (s'[i] < s[i] → Lib.compareBytes s.data.toList s'.data.toList = 1) := by
  have l1 : i < s.data.toList.length := by simpa using h
  have l2 : i < s'.data.toList.length := by simpa using h'
  rw [cmpB_drop i _ _ ht (by omega) (by omega), List.drop_eq_getElem_cons l1, List.drop_eq_getElem_cons l2]
  have e1 : s.data.toList[i] = s[i] := rfl
  have e2 : s'.data.toList[i] = s'[i] := rfl
  rw [e1, e2]
  refine ⟨fun hl => by simp [Lib.compareBytes, hl], fun hl => ?_⟩
  have : ¬ s[i] < s'[i] := fun hh => UInt8.lt_irrefl _ (UInt8.lt_trans hl hh)
  simp [Lib.compareBytes, hl, this]
theorem cmpB_end {s s' : ByteArray} {i : Nat} (h : i ≤ s.size) (h' : i ≤ s'.size) (ht : s.data.toList.take i = s'.data.toList.take i) (hm : i = s.size ∨ i = s'.size) :
    Lib.compareBytes s.data.toList s'.data.toList = if s.size = s'.size then 0 else if s.size < s'.size then -1 else 1 := by
  have l1 : i ≤ s.data.toList.length := by simpa using h
  have l2 : i ≤ s'.data.toList.length := by simpa using h'
  have e1 : s.data.toList.length = s.size := by simp
  have e2 : s'.data.toList.length = s'.size := by simp
  rw [cmpB_drop i _ _ ht l1 l2]
  cases ha : s.data.toList.drop i with
  | nil =>
    have ha' : s.data.toList.length ≤ i := by simpa using ha
    cases hb : s'.data.toList.drop i with
    | nil =>
      have hb' : s'.data.toList.length ≤ i := by simpa using hb
      rw [if_pos (by omega)]; rfl
    | cons y b =>
      have hb' : ¬ s'.data.toList.length ≤ i := fun hh => by rw [List.drop_eq_nil_of_le hh] at hb; cases hb
      rw [if_neg (by omega), if_pos (by omega)]; rfl
  | cons x a =>
    have ha' : ¬ s.data.toList.length ≤ i := fun hh => by rw [List.drop_eq_nil_of_le hh] at ha; cases ha
    cases hb : s'.data.toList.drop i with
    | nil =>
      have hb' : s'.data.toList.length ≤ i := by simpa using hb
      rw [if_neg (by omega), if_neg (by omega)]; rfl
    | cons y b =>
      have hb' : ¬ s'.data.toList.length ≤ i := fun hh => by rw [List.drop_eq_nil_of_le hh] at hb; cases hb
      omega

set_option maxHeartbeats 800000 in
theorem rCompare_any (k n : Int) (s : ByteArray) (k' n' : Int) (s' : ByteArray) (w : World) (hs : s.size ≤ maxLen) (hs' : s'.size ≤ maxLen) :
    Calls Tryz.prog 166 #[.agg #[.int .i64 k, .int .i64 n, .string s], .agg #[.int .i64 k', .int .i64 n', .string s']] w fun e w' => e = .returned (.int .i64 (cmpV k n s k' n' s')) ∧ Below w.heap.size w w' := by
  have hs := Nat.le_trans hs (Nat.le_refl _)
  have hs' := Nat.le_trans hs' (Nat.le_refl _)
  unfold maxLen at hs hs'
  by_cases hk : k = k'
  · by_cases hn : n = n'
    · have HR : Hid (cmpV k n s k' n' s' = Lib.compareBytes s.data.toList s'.data.toList) := by show cmpV k n s k' n' s' = _; unfold cmpV; rw [if_pos hk, if_pos hn]
      have e1 : (k != k') = false := by simp [hk]
      have e2 : (n != n') = false := by simp [hn]
      clear hk hn
      go_enter Tryz.func166, Tryz.ntmps166
      go_wp2_with fail
      go_loopw [5] (fun i wr => ∃ j : Nat, j ≤ s.size ∧ j ≤ s'.size ∧ i = .int .i64 j ∧ Hid (s.data.toList.take j = s'.data.toList.take j) ∧ Hid (Below w.heap.size w wr) ∧ Blk wr w.heap.size 25 #[.int .i64 k, .int .i64 n, .string s] ∧ Blk wr (w.heap.size + 1) 25 #[.int .i64 k', .int .i64 n', .string s']) (fun i _ => s.size - (intOf i).toNat)
      case atStart => exact ⟨0, Nat.zero_le _, Nat.zero_le _, rfl, rfl, al (al (Below.refl _ _) _) _, (Blk.new' rfl).alloc _, Blk.new' (by simp)⟩
      case round =>
        obtain ⟨j, hj, hj', rfl, HT, HB, B1, B2⟩ := hrel
        obtain ⟨⟨a0, a1, a2⟩, ax⟩ := B1.three
        obtain ⟨⟨b0, b1, b2⟩, bx⟩ := B2.three
        clear ax bx
        have hj0 : (0 : Int) ≤ (j : Int) := by omega
        by_cases h1 : j < s.size
        · by_cases h2 : j < s'.size
          · have h1i : (j : Int) < (s.size : Int) := by omega
            have h2i : (j : Int) < (s'.size : Int) := by omega
            by_cases he : s[j] = s'[j]
            · have ee : ((s[j].toNat : Int) != (s'[j].toNat : Int)) = false := by simp [he]
              have HN : Hid (s.data.toList.take (j + 1) = s'.data.toList.take (j + 1)) := by
                show _ = _
                rw [take_snoc s j h1, take_snoc s' j h2, HT.out, he]
              clear he
              go_wp2_with fail
              go_quiet (fail)
              go_wp2_with fail
              go_roundw
              case rel => exact ⟨j + 1, by omega, by omega, by go_num, HN, below_drewN HB.out _, B1.drewN _, B2.drewN _⟩
              case measure => simp [intOf]; omega
            · have hne : s[j].toNat ≠ s'[j].toNat := fun hh => he (UInt8.toNat_inj.1 hh)
              have ee : ((s[j].toNat : Int) != (s'[j].toNat : Int)) = true := by simp; omega
              by_cases hl : s[j].toNat < s'[j].toNat
              · have HL : Hid (Lib.compareBytes s.data.toList s'.data.toList = -1) := (cmpB_at h1 h2 HT.out).1 (UInt8.lt_iff_toNat_lt.2 hl)
                have hli : (s[j].toNat : Int) < (s'[j].toNat : Int) := by omega
                clear he hne hl
                go_wp2_with fail
                go_quiet (fail)
                go_wp2_with fail
                go_quiet (fail)
                go_wp2_with fail
                go_ret
                exact ⟨ret_int (by rw [HR.out, HL.out]), below_drewN (below_drewN HB.out _) _⟩
              · have HL : Hid (Lib.compareBytes s.data.toList s'.data.toList = 1) := (cmpB_at h1 h2 HT.out).2 (UInt8.lt_iff_toNat_lt.2 (by omega))
                have hli : ¬ (s[j].toNat : Int) < (s'[j].toNat : Int) := by omega
                clear he hne hl
                go_wp2_with fail
                go_quiet (fail)
                go_wp2_with fail
                go_quiet (fail)
                go_wp2_with fail
                go_ret
                exact ⟨ret_int (by rw [HR.out, HL.out]), below_drewN (below_drewN HB.out _) _⟩
          · have HE : Hid (Lib.compareBytes s.data.toList s'.data.toList = 1) := by
              show _ = _
              rw [cmpB_end hj hj' HT.out (.inr (by omega)), if_neg (by omega), if_neg (by omega)]
            have ne : ((s.size : Int) != (s'.size : Int)) = true := by simp; omega
            have nl : ¬ (s.size : Int) < (s'.size : Int) := by omega
            go_wp2_with fail
            go_ret
            exact ⟨ret_int (by rw [HR.out, HE.out]), HB.out⟩
        · by_cases h3 : s.size = s'.size
          · have HE : Hid (Lib.compareBytes s.data.toList s'.data.toList = 0) := by
              show _ = _
              rw [cmpB_end hj hj' HT.out (.inl (by omega)), if_pos h3]
            have ne : ((s.size : Int) != (s'.size : Int)) = false := by simp; omega
            go_wp2_with fail
            go_ret
            exact ⟨ret_int (by rw [HR.out, HE.out]), HB.out⟩
          · have HE : Hid (Lib.compareBytes s.data.toList s'.data.toList = -1) := by
              show _ = _
              rw [cmpB_end hj hj' HT.out (.inl (by omega)), if_neg h3, if_pos (by omega)]
            have ne : ((s.size : Int) != (s'.size : Int)) = true := by simp; omega
            have nl : (s.size : Int) < (s'.size : Int) := by omega
            go_wp2_with fail
            go_ret
            exact ⟨ret_int (by rw [HR.out, HE.out]), HB.out⟩
    · have e1 : (k != k') = false := by simp [hk]
      have e2 : (n != n') = true := by simp [hn]
      by_cases hl : n < n'
      · have HR : Hid (cmpV k n s k' n' s' = -1) := by show _ = _; unfold cmpV; rw [if_pos hk, if_neg hn, cmpI_lt hl]
        clear hk hn
        go_enter Tryz.func166, Tryz.ntmps166
        go_wp2_with fail
        go_ret
        exact ⟨ret_int HR.out.symm, al (al (Below.refl _ _) _) _⟩
      · have HR : Hid (cmpV k n s k' n' s' = 1) := by show _ = _; unfold cmpV; rw [if_pos hk, if_neg hn, cmpI_gt (by omega)]
        clear hk hn
        go_enter Tryz.func166, Tryz.ntmps166
        go_wp2_with fail
        go_ret
        exact ⟨ret_int HR.out.symm, al (al (Below.refl _ _) _) _⟩
  · have e1 : (k != k') = true := by simp [hk]
    by_cases hl : k < k'
    · have HR : Hid (cmpV k n s k' n' s' = -1) := by show _ = _; unfold cmpV; rw [if_neg hk, cmpI_lt hl]
      clear hk
      go_enter Tryz.func166, Tryz.ntmps166
      go_wp2_with fail
      go_ret
      exact ⟨ret_int HR.out.symm, al (al (Below.refl _ _) _) _⟩
    · have HR : Hid (cmpV k n s k' n' s' = 1) := by show _ = _; unfold cmpV; rw [if_neg hk, cmpI_gt (by omega)]
      clear hk
      go_enter Tryz.func166, Tryz.ntmps166
      go_wp2_with fail
      go_ret
      exact ⟨ret_int HR.out.symm, al (al (Below.refl _ _) _) _⟩
end Go.Proofs.YtcbcncaoabablaaGreatDoor
