/-
  RVl: CONTRACT of the reference's Value: the value with which a string begins.
  RRd: CONTRACT of the reference's Read: the row with which a string begins.
  RPs: CONTRACT of the reference's Parse of rows: the rows that a string says.
  RRw: CONTRACTS of the reference's Row and String: the string of a row, of rows.
-/
import Derived.Test.YtapnnheggjahlaaGreatDoorGR
import Derived.Lib.AppendStr
import Derived.Lib.BufferRead
namespace Go.Proofs.YtapnnheggjahlaaGreatDoor
open Go.RowKit

theorem scanT_stop {l : List UInt8} (h : ∀ q, l ≠ 39 :: q) : scanT (39 :: l) = 0 := by
  rw [scanT]
  · simp
  · intro q _ e; exact h q e
theorem scanT_go {c : UInt8} {l : List UInt8} (h : c ≠ 39) : scanT (c :: l) = scanT l + 1 := by
  rw [scanT, if_neg h]
  intro q e _; exact absurd e h
theorem inC_yes {c : UInt8} (h : inC c = true) : (c.toNat : Int) = 45 ∨ (48 ≤ (c.toNat : Int) ∧ (c.toNat : Int) ≤ 57) ∨ (97 ≤ (c.toNat : Int) ∧ (c.toNat : Int) ≤ 122) := by
  simp only [inC, Bool.or_eq_true, Bool.and_eq_true, decide_eq_true_eq] at h
  rcases h with (rfl | ⟨h1, h2⟩) | ⟨h1, h2⟩
  · exact .inl rfl
  · exact .inr (.inl ⟨by omega, by omega⟩)
  · exact .inr (.inr ⟨by omega, by omega⟩)
theorem inC_no {c : UInt8} (h : ¬ inC c = true) : ((c.toNat : Int) < 48 ∧ (c.toNat : Int) ≠ 45) ∨ (57 < (c.toNat : Int) ∧ (c.toNat : Int) < 97) ∨ 122 < (c.toNat : Int) := by
  simp only [inC, Bool.or_eq_true, Bool.and_eq_true, decide_eq_true_eq, not_or, not_and] at h
  obtain ⟨⟨h1, h2⟩, h3⟩ := h
  have h4 : c.toNat ≠ 45 := fun e => h1 (UInt8.toNat_inj.1 e)
  omega
/-- what the reference says of a string's beginning -/
def BegV (s : ByteArray) (x : V) (n : Nat) : Prop :=
  (pV (s.data.toList.take (valLen s.data.toList)) = some x ∧ valLen s.data.toList ≤ s.size ∧ n = valLen s.data.toList) ∨ (n = 0 ∧ (s.size < valLen s.data.toList ∨ pV (s.data.toList.take (valLen s.data.toList)) = none))
set_option maxHeartbeats 4000000 in
set_option maxRecDepth 100000 in
theorem RValueW_any (s : ByteArray) (w : World) (hs : s.size ≤ 20000) (hh : s.data.toList.head? ≠ some 39) :
    Calls Tryz.prog 109 #[.string s] w fun e w' => ∃ (x : V) (n : Nat), e = .returned (.tuple #[.agg #[.int .i64 x.k, .int .i64 x.n, .string x.s], .int .i64 n]) ∧ BegV s x n ∧ Below w.heap.size w w' := by
  have R0 := Blk.new' (w := w) (g := w.heap.size) (t := 78) (cs := #[.int .i64 0, .int .i64 0, .string ⟨#[]⟩]) rfl
  have hlt0 : w.heap.size < (w.alloc (.cells #[.int .i64 0, .int .i64 0, .string ⟨#[]⟩] 78)).heap.size := by simp
  have HW : Hid (valLen s.data.toList = (s.data.toList.takeWhile inC).length) := Lib.hid (by unfold valLen; rw [if_neg hh])
  rcases Nat.eq_zero_or_pos s.size with hz | hz
  · have hz0 : decide ((0 : Int) < (s.size : Int)) = false := decide_eq_false (by omega)
    clear hh
    go_enter Tryz.func109, Tryz.ntmps109
    go_wp2_with fail
    go_loop [4] (fun i => ∃ k : Nat, k ≤ s.size ∧ i = .int .i64 k ∧ Hid (valLen s.data.toList = k + ((s.data.toList.drop k).takeWhile inC).length)) (fun i => s.size - (intOf i).toNat)
    case atStart => exact ⟨0, Nat.zero_le _, rfl, Lib.hid (by rw [HW.out]; simp)⟩
    case round =>
      obtain ⟨k, hk, rfl, HE⟩ := hrel
      by_cases hlt : k < s.size
      · exact absurd hlt (by omega)
      · have HV : Hid (valLen s.data.toList = k) := Lib.hid (by
          rw [HE.out, List.drop_eq_nil_of_le (by simpa using hlt)]; rfl)
        have hkf : decide ((k : Int) < (s.size : Int)) = false := by simp; omega
        go_wp2_with fail
        have hle : (k : Int) ≤ (s.size : Int) := by omega
        have hn0 : (0 : Int) ≤ (k : Int) := by omega
        have hps : (s.extract 0 (k)).size ≤ 20000 := by rw [ByteArray.size_extract]; omega
        have HX : Hid (s.data.toList.take (valLen s.data.toList) = (s.extract 0 (k)).data.toList) := Lib.hid (by rw [HV.out, ext_take])
        have HLe : Hid (valLen s.data.toList ≤ s.size) := Lib.hid (by rw [HV.out]; omega)
        go_wp2_with fail
        refine (rParse_any (s.extract 0 (k)) _ hps).mono ?_
        rintro e w2 ⟨x, b, rfl, ha, hb2⟩
        have W2 := Lib.hid (thn (al (Below.refl _ w) _) hb2)
        have R2 := R0.below hb2 hlt0
        have HA := Lib.hid ha
        clear ha hb2 hps
        cases b
        · have HN : Hid (pV (s.data.toList.take (valLen s.data.toList)) = none) := Lib.hid (by rw [HX.out]; exact pV_no (HA.out.2 rfl))
          have hs2 : w.heap.size < w2.heap.size := R2.lt
          obtain ⟨⟨r0, r1, r2⟩, f0, f1, f2⟩ := R2.three
          clear HX HA
          go_wp2_with fail
          obtain ⟨⟨q0, q1, q2⟩, -⟩ := ((R2.three_set (.int .i64 0) (.int .i64 0) (.string ⟨#[]⟩)).alloc (.cells #[.int .i64 x.k, .int .i64 x.n, .string x.s] 78)).three
          exact bodyPost_ret (v := .tuple #[.agg #[.int .i64 0, .int .i64 0, .string ⟨#[]⟩], .int .i64 0]) (by simp [results, Tryz.results109, go_sem, q0, q1, q2]) rfl ⟨⟨0, 0, ⟨#[]⟩⟩, 0, rfl, .inr ⟨rfl, .inr HN.out⟩, al (st3 W2.out (Nat.le_refl _) _ _ _) _⟩
        · have HN : Hid (pV (s.data.toList.take (valLen s.data.toList)) = some x) := Lib.hid (by
            obtain ⟨h1, h2⟩ := HA.out.1 rfl
            rw [HX.out, ← h2]; exact pV_yes h1)
          have hs2 : w.heap.size < w2.heap.size := R2.lt
          obtain ⟨⟨r0, r1, r2⟩, f0, f1, f2⟩ := R2.three
          clear HX HA
          go_wp2_with fail
          obtain ⟨⟨q0, q1, q2⟩, -⟩ := ((R2.three_set (.int .i64 x.k) (.int .i64 x.n) (.string x.s)).alloc (.cells #[.int .i64 x.k, .int .i64 x.n, .string x.s] 78)).three
          exact bodyPost_ret (v := .tuple #[.agg #[.int .i64 x.k, .int .i64 x.n, .string x.s], .int .i64 ((k : Nat) : Int)]) (by simp [results, Tryz.results109, go_sem, q0, q1, q2]) rfl ⟨x, k, rfl, .inl ⟨HN.out, HLe.out, HV.out.symm⟩, al (st3 W2.out (Nat.le_refl _) _ _ _) _⟩
  · have hzi : (0 : Int) < (s.size : Int) := by omega
    have hq : ((s[0].toNat : Int) == 39) = false := by
      simp
      intro e
      have e2 : s[0] = 39 := UInt8.toNat_inj.1 (show s[0].toNat = 39 by omega)
      exact hh (by rw [head_at s hz, e2])
    clear hh
    go_enter Tryz.func109, Tryz.ntmps109
    go_wp2_with fail
    go_loop [4] (fun i => ∃ k : Nat, k ≤ s.size ∧ i = .int .i64 k ∧ Hid (valLen s.data.toList = k + ((s.data.toList.drop k).takeWhile inC).length)) (fun i => s.size - (intOf i).toNat)
    case atStart => exact ⟨0, Nat.zero_le _, rfl, Lib.hid (by rw [HW.out]; simp)⟩
    case round =>
      obtain ⟨k, hk, rfl, HE⟩ := hrel
      by_cases hlt : k < s.size
      · have hlti : (k : Int) < (s.size : Int) := by omega
        have he : valLen s.data.toList = k + ((s[k] :: s.data.toList.drop (k + 1)).takeWhile inC).length := by rw [← drop_cons s k hlt]; exact HE.out
        rw [List.takeWhile_cons] at he
        by_cases hc : inC s[k] = true
        · rw [if_pos hc] at he
          have HN : Hid (valLen s.data.toList = (k + 1 : Nat) + ((s.data.toList.drop (k + 1)).takeWhile inC).length) := Lib.hid (by rw [he, List.length_cons]; omega)
          have h3 := inC_yes hc
          clear he HE hc
          rcases h3 with h1 | ⟨h1, h2⟩ | ⟨h1, h2⟩
          · have e1 : ((s[k].toNat : Int) == 45) = true := by rw [h1]; rfl
            clear h1
            go_wp2_with fail
            go_round
            case rel => exact ⟨k + 1, by omega, by go_num, HN⟩
            case measure => simp [intOf]; omega
          · have e1 : ((s[k].toNat : Int) == 45) = false := beq_eq_false_iff_ne.2 (by omega)
            have e2 : decide ((48 : Int) ≤ (s[k].toNat : Int)) = true := decide_eq_true h1
            have e3 : decide ((s[k].toNat : Int) ≤ (57 : Int)) = true := decide_eq_true h2
            clear h1 h2
            go_wp2_with fail
            go_round
            case rel => exact ⟨k + 1, by omega, by go_num, HN⟩
            case measure => simp [intOf]; omega
          · have e1 : ((s[k].toNat : Int) == 45) = false := beq_eq_false_iff_ne.2 (by omega)
            have e2 : decide ((48 : Int) ≤ (s[k].toNat : Int)) = true := decide_eq_true (by omega)
            have e3 : decide ((s[k].toNat : Int) ≤ (57 : Int)) = false := decide_eq_false (by omega)
            have e4 : decide ((97 : Int) ≤ (s[k].toNat : Int)) = true := decide_eq_true h1
            have e5 : decide ((s[k].toNat : Int) ≤ (122 : Int)) = true := decide_eq_true h2
            clear h1 h2
            go_wp2_with fail
            go_round
            case rel => exact ⟨k + 1, by omega, by go_num, HN⟩
            case measure => simp [intOf]; omega
        · have HV : Hid (valLen s.data.toList = k) := Lib.hid (by rw [he, if_neg hc]; rfl)
          have h3 := inC_no hc
          clear he HE hc
          have e1 : ((s[k].toNat : Int) == 45) = false := beq_eq_false_iff_ne.2 (by omega)
          rcases h3 with ⟨h1, h2⟩ | ⟨h1, h2⟩ | h1
          · have e2 : decide ((48 : Int) ≤ (s[k].toNat : Int)) = false := decide_eq_false (by omega)
            have e3 : decide ((97 : Int) ≤ (s[k].toNat : Int)) = false := decide_eq_false (by omega)
            clear h1 h2
            go_wp2_with fail
            have hle : (k : Int) ≤ (s.size : Int) := by omega
            have hn0 : (0 : Int) ≤ (k : Int) := by omega
            have hps : (s.extract 0 (k)).size ≤ 20000 := by rw [ByteArray.size_extract]; omega
            have HX : Hid (s.data.toList.take (valLen s.data.toList) = (s.extract 0 (k)).data.toList) := Lib.hid (by rw [HV.out, ext_take])
            have HLe : Hid (valLen s.data.toList ≤ s.size) := Lib.hid (by rw [HV.out]; omega)
            go_wp2_with fail
            refine (rParse_any (s.extract 0 (k)) _ hps).mono ?_
            rintro e w2 ⟨x, b, rfl, ha, hb2⟩
            have W2 := Lib.hid (thn (al (Below.refl _ w) _) hb2)
            have R2 := R0.below hb2 hlt0
            have HA := Lib.hid ha
            clear ha hb2 hps
            cases b
            · have HN : Hid (pV (s.data.toList.take (valLen s.data.toList)) = none) := Lib.hid (by rw [HX.out]; exact pV_no (HA.out.2 rfl))
              have hs2 : w.heap.size < w2.heap.size := R2.lt
              obtain ⟨⟨r0, r1, r2⟩, f0, f1, f2⟩ := R2.three
              clear HX HA
              go_wp2_with fail
              obtain ⟨⟨q0, q1, q2⟩, -⟩ := ((R2.three_set (.int .i64 0) (.int .i64 0) (.string ⟨#[]⟩)).alloc (.cells #[.int .i64 x.k, .int .i64 x.n, .string x.s] 78)).three
              exact bodyPost_ret (v := .tuple #[.agg #[.int .i64 0, .int .i64 0, .string ⟨#[]⟩], .int .i64 0]) (by simp [results, Tryz.results109, go_sem, q0, q1, q2]) rfl ⟨⟨0, 0, ⟨#[]⟩⟩, 0, rfl, .inr ⟨rfl, .inr HN.out⟩, al (st3 W2.out (Nat.le_refl _) _ _ _) _⟩
            · have HN : Hid (pV (s.data.toList.take (valLen s.data.toList)) = some x) := Lib.hid (by
                obtain ⟨h1, h2⟩ := HA.out.1 rfl
                rw [HX.out, ← h2]; exact pV_yes h1)
              have hs2 : w.heap.size < w2.heap.size := R2.lt
              obtain ⟨⟨r0, r1, r2⟩, f0, f1, f2⟩ := R2.three
              clear HX HA
              go_wp2_with fail
              obtain ⟨⟨q0, q1, q2⟩, -⟩ := ((R2.three_set (.int .i64 x.k) (.int .i64 x.n) (.string x.s)).alloc (.cells #[.int .i64 x.k, .int .i64 x.n, .string x.s] 78)).three
              exact bodyPost_ret (v := .tuple #[.agg #[.int .i64 x.k, .int .i64 x.n, .string x.s], .int .i64 ((k : Nat) : Int)]) (by simp [results, Tryz.results109, go_sem, q0, q1, q2]) rfl ⟨x, k, rfl, .inl ⟨HN.out, HLe.out, HV.out.symm⟩, al (st3 W2.out (Nat.le_refl _) _ _ _) _⟩

          · have e2 : decide ((48 : Int) ≤ (s[k].toNat : Int)) = true := decide_eq_true (by omega)
            have e3 : decide ((s[k].toNat : Int) ≤ (57 : Int)) = false := decide_eq_false (by omega)
            have e4 : decide ((97 : Int) ≤ (s[k].toNat : Int)) = false := decide_eq_false (by omega)
            clear h1 h2
            go_wp2_with fail
            have hle : (k : Int) ≤ (s.size : Int) := by omega
            have hn0 : (0 : Int) ≤ (k : Int) := by omega
            have hps : (s.extract 0 (k)).size ≤ 20000 := by rw [ByteArray.size_extract]; omega
            have HX : Hid (s.data.toList.take (valLen s.data.toList) = (s.extract 0 (k)).data.toList) := Lib.hid (by rw [HV.out, ext_take])
            have HLe : Hid (valLen s.data.toList ≤ s.size) := Lib.hid (by rw [HV.out]; omega)
            go_wp2_with fail
            refine (rParse_any (s.extract 0 (k)) _ hps).mono ?_
            rintro e w2 ⟨x, b, rfl, ha, hb2⟩
            have W2 := Lib.hid (thn (al (Below.refl _ w) _) hb2)
            have R2 := R0.below hb2 hlt0
            have HA := Lib.hid ha
            clear ha hb2 hps
            cases b
            · have HN : Hid (pV (s.data.toList.take (valLen s.data.toList)) = none) := Lib.hid (by rw [HX.out]; exact pV_no (HA.out.2 rfl))
              have hs2 : w.heap.size < w2.heap.size := R2.lt
              obtain ⟨⟨r0, r1, r2⟩, f0, f1, f2⟩ := R2.three
              clear HX HA
              go_wp2_with fail
              obtain ⟨⟨q0, q1, q2⟩, -⟩ := ((R2.three_set (.int .i64 0) (.int .i64 0) (.string ⟨#[]⟩)).alloc (.cells #[.int .i64 x.k, .int .i64 x.n, .string x.s] 78)).three
              exact bodyPost_ret (v := .tuple #[.agg #[.int .i64 0, .int .i64 0, .string ⟨#[]⟩], .int .i64 0]) (by simp [results, Tryz.results109, go_sem, q0, q1, q2]) rfl ⟨⟨0, 0, ⟨#[]⟩⟩, 0, rfl, .inr ⟨rfl, .inr HN.out⟩, al (st3 W2.out (Nat.le_refl _) _ _ _) _⟩
            · have HN : Hid (pV (s.data.toList.take (valLen s.data.toList)) = some x) := Lib.hid (by
                obtain ⟨h1, h2⟩ := HA.out.1 rfl
                rw [HX.out, ← h2]; exact pV_yes h1)
              have hs2 : w.heap.size < w2.heap.size := R2.lt
              obtain ⟨⟨r0, r1, r2⟩, f0, f1, f2⟩ := R2.three
              clear HX HA
              go_wp2_with fail
              obtain ⟨⟨q0, q1, q2⟩, -⟩ := ((R2.three_set (.int .i64 x.k) (.int .i64 x.n) (.string x.s)).alloc (.cells #[.int .i64 x.k, .int .i64 x.n, .string x.s] 78)).three
              exact bodyPost_ret (v := .tuple #[.agg #[.int .i64 x.k, .int .i64 x.n, .string x.s], .int .i64 ((k : Nat) : Int)]) (by simp [results, Tryz.results109, go_sem, q0, q1, q2]) rfl ⟨x, k, rfl, .inl ⟨HN.out, HLe.out, HV.out.symm⟩, al (st3 W2.out (Nat.le_refl _) _ _ _) _⟩

          · have e2 : decide ((48 : Int) ≤ (s[k].toNat : Int)) = true := decide_eq_true (by omega)
            have e3 : decide ((s[k].toNat : Int) ≤ (57 : Int)) = false := decide_eq_false (by omega)
            have e4 : decide ((97 : Int) ≤ (s[k].toNat : Int)) = true := decide_eq_true (by omega)
            have e5 : decide ((s[k].toNat : Int) ≤ (122 : Int)) = false := decide_eq_false (by omega)
            clear h1
            go_wp2_with fail
            have hle : (k : Int) ≤ (s.size : Int) := by omega
            have hn0 : (0 : Int) ≤ (k : Int) := by omega
            have hps : (s.extract 0 (k)).size ≤ 20000 := by rw [ByteArray.size_extract]; omega
            have HX : Hid (s.data.toList.take (valLen s.data.toList) = (s.extract 0 (k)).data.toList) := Lib.hid (by rw [HV.out, ext_take])
            have HLe : Hid (valLen s.data.toList ≤ s.size) := Lib.hid (by rw [HV.out]; omega)
            go_wp2_with fail
            refine (rParse_any (s.extract 0 (k)) _ hps).mono ?_
            rintro e w2 ⟨x, b, rfl, ha, hb2⟩
            have W2 := Lib.hid (thn (al (Below.refl _ w) _) hb2)
            have R2 := R0.below hb2 hlt0
            have HA := Lib.hid ha
            clear ha hb2 hps
            cases b
            · have HN : Hid (pV (s.data.toList.take (valLen s.data.toList)) = none) := Lib.hid (by rw [HX.out]; exact pV_no (HA.out.2 rfl))
              have hs2 : w.heap.size < w2.heap.size := R2.lt
              obtain ⟨⟨r0, r1, r2⟩, f0, f1, f2⟩ := R2.three
              clear HX HA
              go_wp2_with fail
              obtain ⟨⟨q0, q1, q2⟩, -⟩ := ((R2.three_set (.int .i64 0) (.int .i64 0) (.string ⟨#[]⟩)).alloc (.cells #[.int .i64 x.k, .int .i64 x.n, .string x.s] 78)).three
              exact bodyPost_ret (v := .tuple #[.agg #[.int .i64 0, .int .i64 0, .string ⟨#[]⟩], .int .i64 0]) (by simp [results, Tryz.results109, go_sem, q0, q1, q2]) rfl ⟨⟨0, 0, ⟨#[]⟩⟩, 0, rfl, .inr ⟨rfl, .inr HN.out⟩, al (st3 W2.out (Nat.le_refl _) _ _ _) _⟩
            · have HN : Hid (pV (s.data.toList.take (valLen s.data.toList)) = some x) := Lib.hid (by
                obtain ⟨h1, h2⟩ := HA.out.1 rfl
                rw [HX.out, ← h2]; exact pV_yes h1)
              have hs2 : w.heap.size < w2.heap.size := R2.lt
              obtain ⟨⟨r0, r1, r2⟩, f0, f1, f2⟩ := R2.three
              clear HX HA
              go_wp2_with fail
              obtain ⟨⟨q0, q1, q2⟩, -⟩ := ((R2.three_set (.int .i64 x.k) (.int .i64 x.n) (.string x.s)).alloc (.cells #[.int .i64 x.k, .int .i64 x.n, .string x.s] 78)).three
              exact bodyPost_ret (v := .tuple #[.agg #[.int .i64 x.k, .int .i64 x.n, .string x.s], .int .i64 ((k : Nat) : Int)]) (by simp [results, Tryz.results109, go_sem, q0, q1, q2]) rfl ⟨x, k, rfl, .inl ⟨HN.out, HLe.out, HV.out.symm⟩, al (st3 W2.out (Nat.le_refl _) _ _ _) _⟩

      · have HV : Hid (valLen s.data.toList = k) := Lib.hid (by
          rw [HE.out, List.drop_eq_nil_of_le (by simpa using hlt)]; rfl)
        have hkf : decide ((k : Int) < (s.size : Int)) = false := by simp; omega
        go_wp2_with fail
        have hle : (k : Int) ≤ (s.size : Int) := by omega
        have hn0 : (0 : Int) ≤ (k : Int) := by omega
        have hps : (s.extract 0 (k)).size ≤ 20000 := by rw [ByteArray.size_extract]; omega
        have HX : Hid (s.data.toList.take (valLen s.data.toList) = (s.extract 0 (k)).data.toList) := Lib.hid (by rw [HV.out, ext_take])
        have HLe : Hid (valLen s.data.toList ≤ s.size) := Lib.hid (by rw [HV.out]; omega)
        go_wp2_with fail
        refine (rParse_any (s.extract 0 (k)) _ hps).mono ?_
        rintro e w2 ⟨x, b, rfl, ha, hb2⟩
        have W2 := Lib.hid (thn (al (Below.refl _ w) _) hb2)
        have R2 := R0.below hb2 hlt0
        have HA := Lib.hid ha
        clear ha hb2 hps
        cases b
        · have HN : Hid (pV (s.data.toList.take (valLen s.data.toList)) = none) := Lib.hid (by rw [HX.out]; exact pV_no (HA.out.2 rfl))
          have hs2 : w.heap.size < w2.heap.size := R2.lt
          obtain ⟨⟨r0, r1, r2⟩, f0, f1, f2⟩ := R2.three
          clear HX HA
          go_wp2_with fail
          obtain ⟨⟨q0, q1, q2⟩, -⟩ := ((R2.three_set (.int .i64 0) (.int .i64 0) (.string ⟨#[]⟩)).alloc (.cells #[.int .i64 x.k, .int .i64 x.n, .string x.s] 78)).three
          exact bodyPost_ret (v := .tuple #[.agg #[.int .i64 0, .int .i64 0, .string ⟨#[]⟩], .int .i64 0]) (by simp [results, Tryz.results109, go_sem, q0, q1, q2]) rfl ⟨⟨0, 0, ⟨#[]⟩⟩, 0, rfl, .inr ⟨rfl, .inr HN.out⟩, al (st3 W2.out (Nat.le_refl _) _ _ _) _⟩
        · have HN : Hid (pV (s.data.toList.take (valLen s.data.toList)) = some x) := Lib.hid (by
            obtain ⟨h1, h2⟩ := HA.out.1 rfl
            rw [HX.out, ← h2]; exact pV_yes h1)
          have hs2 : w.heap.size < w2.heap.size := R2.lt
          obtain ⟨⟨r0, r1, r2⟩, f0, f1, f2⟩ := R2.three
          clear HX HA
          go_wp2_with fail
          obtain ⟨⟨q0, q1, q2⟩, -⟩ := ((R2.three_set (.int .i64 x.k) (.int .i64 x.n) (.string x.s)).alloc (.cells #[.int .i64 x.k, .int .i64 x.n, .string x.s] 78)).three
          exact bodyPost_ret (v := .tuple #[.agg #[.int .i64 x.k, .int .i64 x.n, .string x.s], .int .i64 ((k : Nat) : Int)]) (by simp [results, Tryz.results109, go_sem, q0, q1, q2]) rfl ⟨x, k, rfl, .inl ⟨HN.out, HLe.out, HV.out.symm⟩, al (st3 W2.out (Nat.le_refl _) _ _ _) _⟩

set_option maxHeartbeats 4000000 in
set_option maxRecDepth 100000 in
theorem RValueT_any (s : ByteArray) (w : World) (hs : s.size ≤ 20000) (hh : s.data.toList.head? = some 39) :
    Calls Tryz.prog 109 #[.string s] w fun e w' => ∃ (x : V) (n : Nat), e = .returned (.tuple #[.agg #[.int .i64 x.k, .int .i64 x.n, .string x.s], .int .i64 n]) ∧ BegV s x n ∧ Below w.heap.size w w' := by
  have R0 := Blk.new' (w := w) (g := w.heap.size) (t := 78) (cs := #[.int .i64 0, .int .i64 0, .string ⟨#[]⟩]) rfl
  have hlt0 : w.heap.size < (w.alloc (.cells #[.int .i64 0, .int .i64 0, .string ⟨#[]⟩] 78)).heap.size := by simp
  have hz : 0 < s.size := by
    have hsz : s.data.toList.length = s.size := Array.length_toList
    cases hl : s.data.toList with
    | nil => rw [hl] at hh; cases hh
    | cons c r => rw [hl] at hsz; simp at hsz; omega
  have hzi : (0 : Int) < (s.size : Int) := by omega
  have HW : Hid (valLen s.data.toList = 1 + scanT (s.data.toList.drop 1) + 1) := Lib.hid (by
    unfold valLen; rw [if_pos hh, List.drop_one]; omega)
  have hq : ((s[0].toNat : Int) == 39) = true := by
    have e := head_at s hz
    rw [hh] at e
    rw [(Option.some.inj e).symm]; rfl
  clear hh
  go_enter Tryz.func109, Tryz.ntmps109
  go_wp2_with fail
  go_loop [4] (fun i => ∃ k : Nat, 1 ≤ k ∧ k ≤ s.size ∧ i = .int .i64 k ∧ Hid (valLen s.data.toList = k + scanT (s.data.toList.drop k) + 1)) (fun i => s.size - (intOf i).toNat)
  case atStart => exact ⟨1, Nat.le_refl _, hz, rfl, HW⟩
  case round =>
    obtain ⟨k, hk1, hk, rfl, HE⟩ := hrel
    by_cases hlt : k < s.size
    · have hlti : (k : Int) < (s.size : Int) := by omega
      have he : valLen s.data.toList = k + scanT (s[k] :: s.data.toList.drop (k + 1)) + 1 := by rw [← drop_cons s k hlt]; exact HE.out
      by_cases hc : s[k] = 39
      · have ec : ((s[k].toNat : Int) == 39) = true := by simp [hc]
        have en : (s[k].toNat : Int) = 39 := by rw [hc]; rfl
        by_cases hlt2 : k + 1 < s.size
        · rw [drop_cons s (k + 1) hlt2, hc] at he
          have hlti2 : (k : Int) + 1 < (s.size : Int) := by omega
          by_cases hd : s[k + 1] = 39
          · have ed : ((s[k + 1].toNat : Int) == 39) = true := by simp [hd]
            rw [hd, scanT] at he
            have HN : Hid (valLen s.data.toList = (k + 2 : Nat) + scanT (s.data.toList.drop (k + 2)) + 1) := Lib.hid (by rw [he, show k + 2 = k + 1 + 1 from rfl]; omega)
            clear he HE hc hd
            go_wp2_with fail
            go_round
            case rel => exact ⟨k + 2, by omega, by omega, by go_num, HN⟩
            case measure => simp [intOf]; omega
          · have ed : ((s[k + 1].toNat : Int) == 39) = false := by
              simp
              intro hh
              exact hd (UInt8.toNat_inj.1 (show s[k + 1].toNat = 39 by omega))
            rw [scanT_stop (fun l e => hd (by injection e))] at he
            have HV : Hid (valLen s.data.toList = k + 1) := Lib.hid he
            clear he HE hc hd
            go_wp2_with fail
            have hle : (k + 1 : Int) ≤ (s.size : Int) := by omega
            have hn0 : (0 : Int) ≤ (k + 1 : Int) := by omega
            have hps : (s.extract 0 (k + 1)).size ≤ 20000 := by rw [ByteArray.size_extract]; omega
            have HX : Hid (s.data.toList.take (valLen s.data.toList) = (s.extract 0 (k + 1)).data.toList) := Lib.hid (by rw [HV.out, ext_take])
            have HLe : Hid (valLen s.data.toList ≤ s.size) := Lib.hid (by rw [HV.out]; omega)
            go_wp2_with fail
            refine (rParse_any (s.extract 0 (k + 1)) _ hps).mono ?_
            rintro e w2 ⟨x, b, rfl, ha, hb2⟩
            have W2 := Lib.hid (thn (al (Below.refl _ w) _) hb2)
            have R2 := R0.below hb2 hlt0
            have HA := Lib.hid ha
            clear ha hb2 hps
            cases b
            · have HN : Hid (pV (s.data.toList.take (valLen s.data.toList)) = none) := Lib.hid (by rw [HX.out]; exact pV_no (HA.out.2 rfl))
              have hs2 : w.heap.size < w2.heap.size := R2.lt
              obtain ⟨⟨r0, r1, r2⟩, f0, f1, f2⟩ := R2.three
              clear HX HA
              go_wp2_with fail
              obtain ⟨⟨q0, q1, q2⟩, -⟩ := ((R2.three_set (.int .i64 0) (.int .i64 0) (.string ⟨#[]⟩)).alloc (.cells #[.int .i64 x.k, .int .i64 x.n, .string x.s] 78)).three
              exact bodyPost_ret (v := .tuple #[.agg #[.int .i64 0, .int .i64 0, .string ⟨#[]⟩], .int .i64 0]) (by simp [results, Tryz.results109, go_sem, q0, q1, q2]) rfl ⟨⟨0, 0, ⟨#[]⟩⟩, 0, rfl, .inr ⟨rfl, .inr HN.out⟩, al (st3 W2.out (Nat.le_refl _) _ _ _) _⟩
            · have HN : Hid (pV (s.data.toList.take (valLen s.data.toList)) = some x) := Lib.hid (by
                obtain ⟨h1, h2⟩ := HA.out.1 rfl
                rw [HX.out, ← h2]; exact pV_yes h1)
              have hs2 : w.heap.size < w2.heap.size := R2.lt
              obtain ⟨⟨r0, r1, r2⟩, f0, f1, f2⟩ := R2.three
              clear HX HA
              go_wp2_with fail
              obtain ⟨⟨q0, q1, q2⟩, -⟩ := ((R2.three_set (.int .i64 x.k) (.int .i64 x.n) (.string x.s)).alloc (.cells #[.int .i64 x.k, .int .i64 x.n, .string x.s] 78)).three
              exact bodyPost_ret (v := .tuple #[.agg #[.int .i64 x.k, .int .i64 x.n, .string x.s], .int .i64 ((k + 1 : Nat) : Int)]) (by simp [results, Tryz.results109, go_sem, q0, q1, q2]) rfl ⟨x, k + 1, rfl, .inl ⟨HN.out, HLe.out, HV.out.symm⟩, al (st3 W2.out (Nat.le_refl _) _ _ _) _⟩

        · have hlf : decide ((k : Int) + 1 < (s.size : Int)) = false := by simp; omega
          rw [hc, List.drop_eq_nil_of_le (by simpa using hlt2), scanT_stop (fun l e => by cases e)] at he
          have HV : Hid (valLen s.data.toList = k + 1) := Lib.hid he
          clear he HE hc
          go_wp2_with fail
          have hle : (k + 1 : Int) ≤ (s.size : Int) := by omega
          have hn0 : (0 : Int) ≤ (k + 1 : Int) := by omega
          have hps : (s.extract 0 (k + 1)).size ≤ 20000 := by rw [ByteArray.size_extract]; omega
          have HX : Hid (s.data.toList.take (valLen s.data.toList) = (s.extract 0 (k + 1)).data.toList) := Lib.hid (by rw [HV.out, ext_take])
          have HLe : Hid (valLen s.data.toList ≤ s.size) := Lib.hid (by rw [HV.out]; omega)
          go_wp2_with fail
          refine (rParse_any (s.extract 0 (k + 1)) _ hps).mono ?_
          rintro e w2 ⟨x, b, rfl, ha, hb2⟩
          have W2 := Lib.hid (thn (al (Below.refl _ w) _) hb2)
          have R2 := R0.below hb2 hlt0
          have HA := Lib.hid ha
          clear ha hb2 hps
          cases b
          · have HN : Hid (pV (s.data.toList.take (valLen s.data.toList)) = none) := Lib.hid (by rw [HX.out]; exact pV_no (HA.out.2 rfl))
            have hs2 : w.heap.size < w2.heap.size := R2.lt
            obtain ⟨⟨r0, r1, r2⟩, f0, f1, f2⟩ := R2.three
            clear HX HA
            go_wp2_with fail
            obtain ⟨⟨q0, q1, q2⟩, -⟩ := ((R2.three_set (.int .i64 0) (.int .i64 0) (.string ⟨#[]⟩)).alloc (.cells #[.int .i64 x.k, .int .i64 x.n, .string x.s] 78)).three
            exact bodyPost_ret (v := .tuple #[.agg #[.int .i64 0, .int .i64 0, .string ⟨#[]⟩], .int .i64 0]) (by simp [results, Tryz.results109, go_sem, q0, q1, q2]) rfl ⟨⟨0, 0, ⟨#[]⟩⟩, 0, rfl, .inr ⟨rfl, .inr HN.out⟩, al (st3 W2.out (Nat.le_refl _) _ _ _) _⟩
          · have HN : Hid (pV (s.data.toList.take (valLen s.data.toList)) = some x) := Lib.hid (by
              obtain ⟨h1, h2⟩ := HA.out.1 rfl
              rw [HX.out, ← h2]; exact pV_yes h1)
            have hs2 : w.heap.size < w2.heap.size := R2.lt
            obtain ⟨⟨r0, r1, r2⟩, f0, f1, f2⟩ := R2.three
            clear HX HA
            go_wp2_with fail
            obtain ⟨⟨q0, q1, q2⟩, -⟩ := ((R2.three_set (.int .i64 x.k) (.int .i64 x.n) (.string x.s)).alloc (.cells #[.int .i64 x.k, .int .i64 x.n, .string x.s] 78)).three
            exact bodyPost_ret (v := .tuple #[.agg #[.int .i64 x.k, .int .i64 x.n, .string x.s], .int .i64 ((k + 1 : Nat) : Int)]) (by simp [results, Tryz.results109, go_sem, q0, q1, q2]) rfl ⟨x, k + 1, rfl, .inl ⟨HN.out, HLe.out, HV.out.symm⟩, al (st3 W2.out (Nat.le_refl _) _ _ _) _⟩

      · have en : ¬ (s[k].toNat : Int) = 39 := fun hh => hc (UInt8.toNat_inj.1 (show s[k].toNat = 39 by omega))
        have ec : ((s[k].toNat : Int) == 39) = false := beq_eq_false_iff_ne.2 en
        rw [scanT_go hc] at he
        have HN : Hid (valLen s.data.toList = (k + 1 : Nat) + scanT (s.data.toList.drop (k + 1)) + 1) := Lib.hid (by rw [he]; omega)
        clear he HE hc
        go_wp2_with fail
        go_round
        case rel => exact ⟨k + 1, by omega, by omega, by go_num, HN⟩
        case measure => simp [intOf]; omega
    · have hkf : decide ((k : Int) < (s.size : Int)) = false := by simp; omega
      have HV : Hid (valLen s.data.toList = k + 1) := Lib.hid (by
        rw [HE.out, List.drop_eq_nil_of_le (by simpa using hlt)]; rfl)
      go_wp2_with fail
      have hlt : (s.size : Int) < (k + 1 : Int) := by omega
      have HX : Hid (s.size < valLen s.data.toList) := Lib.hid (by rw [HV.out]; omega)
      obtain ⟨⟨r0, r1, r2⟩, f0, f1, f2⟩ := R0.three
      go_wp2_with fail
      exact bodyPost_ret (v := .tuple #[.agg #[.int .i64 0, .int .i64 0, .string ⟨#[]⟩], .int .i64 0]) (by simp [results, Tryz.results109, go_sem, r0, r1, r2]) rfl ⟨⟨0, 0, ⟨#[]⟩⟩, 0, rfl, .inr ⟨rfl, .inl HX.out⟩, al (Below.refl _ _) _⟩

theorem RValue_any (s : ByteArray) (w : World) (hs : s.size ≤ 20000) :
    Calls Tryz.prog 109 #[.string s] w fun e w' => ∃ (x : V) (n : Nat), e = .returned (.tuple #[.agg #[.int .i64 x.k, .int .i64 x.n, .string x.s], .int .i64 n]) ∧ BegV s x n ∧ Below w.heap.size w w' := by
  by_cases hh : s.data.toList.head? = some 39
  · exact RValueT_any s w hs hh
  · exact RValueW_any s w hs hh
end Go.Proofs.YtapnnheggjahlaaGreatDoor
namespace Go.Proofs.YtapnnheggjahlaaGreatDoor
open Go.RowKit

theorem drop_add (s : ByteArray) (k n : Nat) : (s.extract k s.size).data.toList.drop n = s.data.toList.drop (k + n) := by
  rw [ext_drop, List.drop_drop]
theorem drop_at {s : ByteArray} {m : Nat} {c : UInt8} {t : List UInt8} (h : s.data.toList.drop m = c :: t) : ∃ hm : m < s.size, s[m] = c ∧ t = s.data.toList.drop (m + 1) := by
  have hm : m < s.size := by
    rcases Nat.lt_or_ge m s.size with h1 | h1
    · exact h1
    · rw [List.drop_eq_nil_of_le (by simpa using h1)] at h; cases h
  rw [drop_cons s m hm] at h
  injection h with h1 h2
  exact ⟨hm, h1, h2.symm⟩
theorem ext_two {s : ByteArray} {m : Nat} (h : m + 2 ≤ s.size) : (s.extract m (m + 2)).data.toList = [s[m], s[m + 1]] := by
  rw [ByteArray.data_extract, Array.toList_extract]
  have h1 : s.data.toList.drop m = s[m] :: s[m + 1] :: s.data.toList.drop (m + 2) := by
    rw [drop_cons s m (by omega), drop_cons s (m + 1) (by omega)]
  have e : (m + 2) - m = 2 := by omega
  simp only [List.extract, h1, e]
  rfl
/-- what the reference says of a string that begins with a row -/
def BegR (w w' : World) (s : ByteArray) (v : Value) (r : List V) (n : Nat) : Prop :=
  (0 < n ∧ n ≤ s.size ∧ LineIs (s.data.toList.take n) r ∧ OwnR w' w.heap.size v r) ∨ (n = 0 ∧ v = .slice none 0 0 ∧ ∀ r q, (∀ v ∈ r, v.fine) → s.data.toList ≠ rowS r ++ q)
theorem opens_row {l : List UInt8} {r : List V} {q : List UInt8} (hr : r ≠ []) (hf : ∀ v ∈ r, v.fine) (h : 40 :: l = rowS r ++ q) : Opens l r q := by
  rw [rowS_body] at h
  simp only [List.cons_append, List.append_assoc, List.cons.injEq, true_and, List.nil_append] at h
  exact ⟨hr, hf, h⟩
theorem row_two (r : List V) : 2 ≤ (rowS r).length := by rw [rowS_body]; simp
theorem row_nil_next {r : List V} {q l : List UInt8} (hr : r ≠ []) (hf : ∀ v ∈ r, v.fine) (h : 40 :: 41 :: l = rowS r ++ q) : False := by
  have h1 := opens_row hr hf h
  match r, hr, h1 with
  | v :: r, _, h1 =>
    obtain ⟨c, p, e, hc⟩ := strV_ne (hf v (List.mem_cons_self ..))
    have h2 := h1.2.2
    simp only [body, e, List.cons_append, List.cons.injEq] at h2
    exact hc h2.1.symm
set_option maxHeartbeats 4000000 in
set_option maxRecDepth 100000 in
theorem RRead_any (s : ByteArray) (w : World) (hs : s.size ≤ 20000) :
    Calls Tryz.prog 83 #[.string s] w fun e w' => ∃ (v : Value) (r : List V) (n : Nat), e = .returned (.tuple #[v, .int .i64 n]) ∧ BegR w w' s v r n ∧ Below w.heap.size w w' := by
  obtain ⟨i0, hi, hz0, hz1, hz2⟩ := info_parts infoV
  have hlen : s.data.toList.length = s.size := Array.length_toList
  by_cases h2 : s.size < 2
  · have HN : Hid (∀ r q, (∀ v ∈ r, v.fine) → s.data.toList ≠ rowS r ++ q) := Lib.hid fun r q _ e => by
      have h3 := congrArg List.length e
      rw [List.length_append] at h3
      have := row_two r
      omega
    have hd : decide ((s.size : Int) < 2) = true := decide_eq_true (by omega)
    clear hlen h2
    go_enter Tryz.func83, Tryz.ntmps83
    go_wp2_with fail
    go_ret2
    exact ⟨_, [], 0, rfl, .inr ⟨rfl, rfl, HN.out⟩, Below.refl _ _⟩
  · have hd : decide ((s.size : Int) < 2) = false := decide_eq_false (by omega)
    have hz : 0 < s.size := by omega
    have h1 : 1 < s.size := by omega
    have hzi : (0 : Int) < (s.size : Int) := by omega
    have h1i : (1 : Int) < (s.size : Int) := by omega
    have hd0 : s.data.toList = s[0] :: s[1] :: s.data.toList.drop 2 := by
      have := drop_cons s 0 hz
      rw [List.drop_zero, drop_cons s 1 h1] at this
      exact this
    by_cases hc : s[0] = 40
    · have en : (s[0].toNat : Int) = 40 := by rw [hc]; rfl
      have ec : ((s[0].toNat : Int) == 40) = true := by rw [en]; rfl
      by_cases hc1 : s[1] = 41
      · have e1 : ((s[1].toNat : Int) == 41) = true := by rw [hc1]; rfl
        have HN : Hid (LineIs (s.data.toList.take 2) []) := Lib.hid (by
          rw [hd0, hc, hc1]
          exact ⟨by simp, rfl⟩)
        clear hd0 hc hc1 hlen
        go_enter Tryz.func83, Tryz.ntmps83
        go_wp2_with fail
        go_ret2
        exact ⟨_, [], 2, rfl, .inl ⟨by omega, by omega, HN.out, World.ownsRow_nil _ _ _ _⟩, Below.refl _ _⟩
      · have e1 : ((s[1].toNat : Int) == 41) = false := beq_eq_false_iff_ne.2 fun hh => hc1 (UInt8.toNat_inj.1 (show s[1].toNat = 41 by omega))
        have HB : Hid (s.data.toList = 40 :: s.data.toList.drop 1) := Lib.hid (by
          have := drop_cons s 0 hz
          rw [List.drop_zero, hc] at this
          exact this)
        have HNil : Hid (∀ q, s.data.toList ≠ rowS [] ++ q) := Lib.hid fun q e => by
          rw [hd0, hc, rowS_nil] at e
          simp only [List.cons_append, List.cons.injEq] at e
          exact hc1 e.2.1
        clear hd0 hc hc1
        go_enter Tryz.func83, Tryz.ntmps83
        go_wp2_with fail
        go_loopw [4, 5] (fun ov av wr => ∃ (k : Nat) (out : List V), av = .int .i64 k ∧ 1 ≤ k ∧ k ≤ s.size ∧ out.length ≤ k ∧ Hid (OwnR wr w.heap.size ov out ∧ Below w.heap.size w wr) ∧ Hid (∀ r q, Opens (s.data.toList.drop 1) r q ↔ ∃ r2, r = out ++ r2 ∧ Opens (s.data.toList.drop k) r2 q)) (fun _ av _ => s.size - (intOf av).toNat)
        case atStart => exact ⟨1, [], rfl, Nat.le_refl _, by omega, Nat.zero_le _, Lib.hid ⟨World.ownsRow_nil _ _ _ _, Below.refl _ _⟩, Lib.hid fun r q => ⟨fun h => ⟨r, rfl, h⟩, by rintro ⟨r2, rfl, h⟩; exact h⟩⟩
        case round =>
          obtain ⟨k, out, rfl, hk1, hk, hol, HI, HR⟩ := hrel
          have hki : (k : Int) ≤ (s.size : Int) := by omega
          have hps : (s.extract k s.size).size ≤ 20000 := by rw [ByteArray.size_extract]; omega
          have hxz : (s.extract k s.size).size = s.size - k := by rw [ByteArray.size_extract]; omega
          have HFail : Hid ((∀ r q, ¬ Opens (s.data.toList.drop k) r q) → ∀ r q, (∀ v ∈ r, v.fine) → s.data.toList ≠ rowS r ++ q) := Lib.hid fun hno r q hf e => by
            by_cases hr : r = []
            · subst hr; exact HNil.out q e
            · rw [HB.out] at e
              obtain ⟨r2, -, h3⟩ := (HR.out r q).1 (opens_row hr hf e)
              exact hno r2 q h3
          go_wp2_with fail
          refine (RValue_any (s.extract k s.size) wr hps).mono ?_
          rintro e w2 ⟨v, n, rfl, hbeg, hb2⟩
          have HI2 : Hid (OwnR w2 w.heap.size u4 out ∧ Below w.heap.size w w2) := Lib.hid ⟨own_below HI.out.1 hb2, thn HI.out.2 hb2⟩
          clear hb2 hps HI
          rcases hbeg with ⟨g1, g2, g3⟩ | ⟨rfl, g2⟩
          · rw [← g3] at g1 g2
            have hn1 : 1 ≤ n := by
              rcases Nat.eq_zero_or_pos n with h0 | h0
              · rw [h0, List.take_zero, pV_nil] at g1; cases g1
              · exact h0
            rw [hxz] at g2
            have HV : Hid (pV ((s.data.toList.drop k).take (valLen (s.data.toList.drop k))) = some v ∧ n = valLen (s.data.toList.drop k)) := Lib.hid (by
              rw [ext_drop] at g1 g3
              exact ⟨by rw [← g3]; exact g1, g3⟩)
            have hn0 : ((n : Int) == 0) = false := beq_eq_false_iff_ne.2 (by omega)
            clear g1 g3 hxz
            obtain ⟨m, hm⟩ : ∃ m, m = k + n := ⟨_, rfl⟩
            have hmi : (k : Int) + (n : Int) = (m : Int) := by omega
            have hmz : m ≤ s.size := by omega
            have HD : Hid ((s.data.toList.drop k).drop (valLen (s.data.toList.drop k)) = s.data.toList.drop m) := Lib.hid (by
              rw [← HV.out.2, List.drop_drop, hm])
            have hol2 : out.length + 1 ≤ m := by omega
            have hkm : k < m := by omega
            clear hm g2 hn1
            go_wp2_with (at_builtin; refine wpList_append_any _ rfl (.tmp 28) (.tmp 30) 34 rfl w.heap.size 78 i0 (.agg #[.int .i64 0, .int .i64 0, .string ⟨#[]⟩]) 3 32 Tryz.underlying34 hi hz0 hz1 hz2 rfl (by decide) _ _ _ rfl (own_below HI2.out.1 (al (al (Below.refl _ _) _) _)) (w2.heap.size + 2) _ 1 1 (vcells [v]) rfl ?c0 ?c1 ?c2 ?c3 ?c4 ?_)
            case c0 => exact (VReads.one (Blk.new' (g := w2.heap.size + 1) (by simp)) (Nat.lt_succ_self _)).reads
            case c1 => exact vcells_one _
            case c2 => unfold maxLen; omega
            case c3 => omega
            case c4 => have := HI2.out.2.size; simp <;> omega
            intro v' w5 hown hgrow _
            have HI5 : Hid (OwnR w5 w.heap.size v' (out ++ [v]) ∧ Below w.heap.size w w5) := by
              refine ⟨?_, (al (al HI2.out.2 _) _).grown hgrow (by have := HI2.out.2.size; simp <;> omega) (own_base HI2.out.1)⟩
              show w5.ownsRow _ _ _ _ _ _
              rw [List.length_append, vcells_append]
              exact hown
            clear hown hgrow HI2
            by_cases hlt : m < s.size
            · have hlti : (m : Int) < (s.size : Int) := by omega
              by_cases h41 : s[m] = 41
              · have e41 : ((s[m].toNat : Int) == 41) = true := by rw [h41]; rfl
                have HL : Hid (LineIs (s.data.toList.take (m + 1)) (out ++ [v])) := Lib.hid (by
                  have hdm : s.data.toList.drop m = 41 :: s.data.toList.drop (m + 1) := by rw [drop_cons s m hlt, h41]
                  have h3 := (HR.out (out ++ [v]) (s.data.toList.drop (m + 1))).2 ⟨[v], rfl, (opens_last HV.out.1 (HD.out.trans hdm) _ _).2 ⟨rfl, rfl⟩⟩
                  refine ⟨h3.2.1, ?_⟩
                  have h4 : s.data.toList = rowS (out ++ [v]) ++ s.data.toList.drop (m + 1) := HB.out.trans (by
                    rw [h3.2.2, rowS_body]
                    simp)
                  have h5 := (List.take_append_drop (m + 1) s.data.toList).trans h4
                  exact (List.append_cancel_right h5).symm)
                clear h41 HR HV HD HFail HB HNil
                go_wp2_with fail
                go_ret2
                exact ⟨_, out ++ [v], m + 1, by rw [Int.natCast_add]; rfl, .inl ⟨by omega, by omega, HL.out, HI5.out.1⟩, HI5.out.2⟩
              · have e41 : ((s[m].toNat : Int) == 41) = false := beq_eq_false_iff_ne.2 fun hh => h41 (UInt8.toNat_inj.1 (show s[m].toNat = 41 by omega))
                have n41 : ∀ t, s.data.toList.drop m ≠ 41 :: t := fun t e => by
                  obtain ⟨_, h3, -⟩ := drop_at e
                  exact h41 h3
                by_cases h2z : m + 2 ≤ s.size
                · have hd2 : decide ((s.size : Int) < (m : Int) + 2) = false := decide_eq_false (by omega)
                  have hle2 : (m : Int) + 2 ≤ (s.size : Int) := by omega
                  have ht2 := ext_two h2z
                  by_cases hcs : s[m] = 44 ∧ s[m + 1] = 32
                  · have hxb : ((s.extract m (m + 2)).toList == [44, 32]) = true := by
                      rw [toList_eq, ht2, hcs.1, hcs.2]; rfl
                    have HN : Hid (∀ r q, Opens (s.data.toList.drop 1) r q ↔ ∃ r2, r = (out ++ [v]) ++ r2 ∧ Opens (s.data.toList.drop (m + 2)) r2 q) := Lib.hid fun r q => by
                      have hdm : s.data.toList.drop m = 44 :: 32 :: s.data.toList.drop (m + 2) := by rw [drop_cons s m (by omega), drop_cons s (m + 1) (by omega), hcs.1, hcs.2]
                      rw [HR.out r q]
                      constructor
                      · rintro ⟨r2, rfl, h3⟩
                        obtain ⟨r3, rfl, h4⟩ := (opens_more HV.out.1 (HD.out.trans hdm) r2 q).1 h3
                        exact ⟨r3, by simp, h4⟩
                      · rintro ⟨r3, rfl, h4⟩
                        exact ⟨v :: r3, by simp, (opens_more HV.out.1 (HD.out.trans hdm) _ q).2 ⟨r3, rfl, h4⟩⟩
                    clear h41 n41 hcs ht2 HR HV HD HFail
                    go_wp2_with fail
                    go_roundw
                    case rel => exact ⟨m + 2, out ++ [v], by go_num, by omega, h2z, by simp only [List.length_append, List.length_cons, List.length_nil]; omega, HI5, HN⟩
                    case measure => simp [intOf]; omega
                  · have hxb : ((s.extract m (m + 2)).toList == [44, 32]) = false := by
                      rw [toList_eq, ht2]
                      cases h : ([s[m], s[m + 1]] == [44, 32]) with
                      | false => rfl
                      | true =>
                        have h3 : [s[m], s[m + 1]] = [44, 32] := by simpa using h
                        injection h3 with h3 h4
                        injection h4 with h4 _
                        exact absurd ⟨h3, h4⟩ hcs
                    have HN : Hid (∀ r q, (∀ v ∈ r, v.fine) → s.data.toList ≠ rowS r ++ q) := Lib.hid (HFail.out (opens_odd HV.out.1 (by rw [HD.out]; exact n41) (by
                      rw [HD.out]
                      intro t e
                      obtain ⟨_, h3, h4⟩ := drop_at e
                      obtain ⟨_, h5, -⟩ := drop_at h4.symm
                      exact hcs ⟨h3, h5⟩)))
                    clear h41 n41 hcs ht2 HR HV HD HFail
                    go_wp2_with fail
                    go_ret2
                    exact ⟨_, [], 0, rfl, .inr ⟨rfl, rfl, HN.out⟩, HI5.out.2⟩
                · have hd2 : decide ((s.size : Int) < (m : Int) + 2) = true := decide_eq_true (by omega)
                  have HN : Hid (∀ r q, (∀ v ∈ r, v.fine) → s.data.toList ≠ rowS r ++ q) := Lib.hid (HFail.out (opens_odd HV.out.1 (by rw [HD.out]; exact n41) (by
                    rw [HD.out]
                    intro t e
                    obtain ⟨_, h3, h4⟩ := drop_at e
                    obtain ⟨h5, -, -⟩ := drop_at h4.symm
                    omega)))
                  clear h41 n41 HR HV HD HFail
                  go_wp2_with fail
                  go_ret2
                  exact ⟨_, [], 0, rfl, .inr ⟨rfl, rfl, HN.out⟩, HI5.out.2⟩
            · have hlf : decide ((m : Int) < (s.size : Int)) = false := decide_eq_false (by omega)
              have hd2 : decide ((s.size : Int) < (m : Int) + 2) = true := decide_eq_true (by omega)
              have HN : Hid (∀ r q, (∀ v ∈ r, v.fine) → s.data.toList ≠ rowS r ++ q) := Lib.hid (HFail.out (opens_odd HV.out.1 (by
                rw [HD.out]
                intro t e
                obtain ⟨h5, -, -⟩ := drop_at e
                omega) (by
                rw [HD.out]
                intro t e
                obtain ⟨h5, -, -⟩ := drop_at e
                omega)))
              clear HR HV HD HFail
              go_wp2_with fail
              go_ret2
              exact ⟨_, [], 0, rfl, .inr ⟨rfl, rfl, HN.out⟩, HI5.out.2⟩
          · have HN : Hid (∀ r q, (∀ v ∈ r, v.fine) → s.data.toList ≠ rowS r ++ q) := Lib.hid (HFail.out fun r q => by
              rw [← ext_drop]
              refine opens_none ?_ r q
              rcases g2 with g2 | g2
              · exact .inl g2
              · exact .inr g2)
            clear g2 hxz HFail HR
            go_wp2_with fail
            go_ret2
            exact ⟨_, [], 0, rfl, .inr ⟨rfl, rfl, HN.out⟩, al HI2.out.2 _⟩
    · have en : ¬ (s[0].toNat : Int) = 40 := fun hh => hc (UInt8.toNat_inj.1 (show s[0].toNat = 40 by omega))
      have ec : ((s[0].toNat : Int) == 40) = false := beq_eq_false_iff_ne.2 en
      have HN : Hid (∀ r q, (∀ v ∈ r, v.fine) → s.data.toList ≠ rowS r ++ q) := Lib.hid fun r q _ e => by
        rw [hd0, rowS_body] at e
        simp only [List.cons_append, List.cons.injEq] at e
        exact hc e.1
      clear hd0 hc hlen
      go_enter Tryz.func83, Tryz.ntmps83
      go_wp2_with fail
      go_ret2
      exact ⟨_, [], 0, rfl, .inr ⟨rfl, rfl, HN.out⟩, Below.refl _ _⟩
end Go.Proofs.YtapnnheggjahlaaGreatDoor
namespace Go.Proofs.YtapnnheggjahlaaGreatDoor
open Go.RowKit

theorem tlS_cut : ∀ (r q : List V) (a b : List UInt8), (∀ v ∈ r, v.fine) → (∀ v ∈ q, v.fine) → tlS r ++ a = tlS q ++ b → r = q ∧ a = b
  | [], [], a, b, _, _, h => by simpa [tlS] using h
  | [], u :: q, a, b, _, _, h => by rw [tlS_cons] at h; simp [tlS] at h
  | v :: r, [], a, b, _, _, h => by rw [tlS_cons] at h; simp [tlS] at h
  | v :: r, u :: q, a, b, hr, hq, h => by
    rw [tlS_cons, tlS_cons] at h
    simp only [List.cons_append, List.append_assoc, List.cons.injEq, true_and] at h
    obtain ⟨c, x, e1, hc⟩ := tlS_head r
    obtain ⟨d, y, e2, hd⟩ := tlS_head q
    rw [e1, e2] at h
    simp only [List.cons_append] at h
    obtain ⟨h1, h2⟩ := strV_cut (hr v (List.mem_cons_self ..)) (hq u (List.mem_cons_self ..)) hc hd h
    have h3 : tlS r ++ a = tlS q ++ b := by rw [e1, e2]; exact h2
    obtain ⟨h4, h5⟩ := tlS_cut r q a b (fun z hz => hr z (List.mem_cons_of_mem _ hz)) (fun z hz => hq z (List.mem_cons_of_mem _ hz)) h3
    exact ⟨by rw [h1, h4], h5⟩
theorem rowS_cut {r q : List V} {a b : List UInt8} (hr : ∀ v ∈ r, v.fine) (hq : ∀ v ∈ q, v.fine) (h : rowS r ++ a = rowS q ++ b) : r = q ∧ a = b := by
  match r, q with
  | [], [] => exact ⟨rfl, by simpa [rowS_nil] using h⟩
  | [], u :: q =>
    rw [rowS_nil, rowS_cons] at h
    obtain ⟨c, x, e, hc⟩ := strV_ne (hq u (List.mem_cons_self ..))
    rw [e] at h
    simp only [List.cons_append, List.cons.injEq, true_and] at h
    exact absurd h.1.symm hc
  | v :: r, [] =>
    rw [rowS_nil, rowS_cons] at h
    obtain ⟨c, x, e, hc⟩ := strV_ne (hr v (List.mem_cons_self ..))
    rw [e] at h
    simp only [List.cons_append, List.cons.injEq, true_and] at h
    exact absurd h.1 hc
  | v :: r, u :: q =>
    rw [rowS_cons, rowS_cons] at h
    simp only [List.cons_append, List.append_assoc, List.cons.injEq, true_and] at h
    obtain ⟨c, x, e1, hc⟩ := tlS_head r
    obtain ⟨d, y, e2, hd⟩ := tlS_head q
    rw [e1, e2] at h
    simp only [List.cons_append] at h
    obtain ⟨h1, h2⟩ := strV_cut (hr v (List.mem_cons_self ..)) (hq u (List.mem_cons_self ..)) hc hd h
    have h3 : tlS r ++ a = tlS q ++ b := by rw [e1, e2]; exact h2
    obtain ⟨h4, h5⟩ := tlS_cut r q a b (fun z hz => hr z (List.mem_cons_of_mem _ hz)) (fun z hz => hq z (List.mem_cons_of_mem _ hz)) h3
    exact ⟨by rw [h1, h4], h5⟩
theorem chkR_big {L : List (List V)} (h : 20000 < L.length ∨ ∃ r ∈ L, 16 < r.length) : chkR [L] ≠ 0 := by
  have hb : bigL L = true := by
    unfold bigL
    simp only [Bool.or_eq_true, decide_eq_true_eq, List.any_eq_true]
    exact h
  unfold chkR
  rw [if_pos (by simp [hb])]
  decide
theorem chkR_few {L : List (List V)} (h : L.length ≤ 20000) (h2 : ∀ r ∈ L, r.length ≤ 16 ∧ ∀ v ∈ r, v.fine) : chkR [L] = 0 := by
  have hb : bigL L = false := by
    unfold bigL
    rw [Bool.or_eq_false_iff]
    refine ⟨decide_eq_false (by omega), List.any_eq_false.2 fun r hr => ?_⟩
    have := (h2 r hr).1
    simp; omega
  have hd : badL L = false := by
    unfold badL
    refine List.any_eq_false.2 fun r hr => ?_
    have h3 : (r.any fun v => !v.ok) = false := List.any_eq_false.2 fun v hv => by
      have := ((h2 r hr).2 v hv).1
      simp [this]
    rw [h3]; decide
  unfold chkR
  rw [if_neg (by simp [hb]), if_neg (by simp [hd])]
/-- a string that begins with a row says it, if anything, as its first one -/
theorem str_first {l : List UInt8} {r : List V} {a : List UInt8} (hr : ∀ v ∈ r, v.fine) (h : l = rowS r ++ a) (M : List (List V)) (hM : StrIs l M) : ∃ M2, M = r :: M2 ∧ a = 10 :: strR M2 := by
  obtain ⟨h1, h2⟩ := hM
  match M, h1, h2 with
  | [], _, h2 =>
    rw [h, rowS_body] at h2
    cases h2
  | q :: M, h1, h2 =>
    rw [strR_cons, h] at h2
    obtain ⟨h3, h4⟩ := rowS_cut (h1 q (List.mem_cons_self ..)) hr h2
    exact ⟨M, by rw [h3], h4.symm⟩
/-- what the reference says of a string -/
def RParsR (w w' : World) (l : List UInt8) (e : Ending) : Prop :=
  (∃ v L, e = .returned (.tuple #[v, .bool true]) ∧ StrIs l L ∧ chkR [L] = 0 ∧ InL L ∧ OutR w w' v L) ∨ (e = .returned (.tuple #[.slice none 0 0, .bool false]) ∧ ∀ L, StrIs l L → chkR [L] ≠ 0)
set_option maxHeartbeats 4000000 in
set_option maxRecDepth 100000 in
theorem RParseR_any (s : ByteArray) (w : World) (hs : s.size ≤ 20000) :
    Calls Tryz.prog 47 #[.string s] w fun e w' => RParsR w w' s.data.toList e ∧ Below w.heap.size w w' := by
  obtain ⟨i0, hi, hz0, hz1, hz2⟩ := info_parts infoR
  go_enter Tryz.func47, Tryz.ntmps47
  go_wp2_with fail
  go_loopw [4, 5] (fun ov av wr => ∃ (k : Nat) (L : List (List V)), av = .int .i64 k ∧ k ≤ s.size ∧ L.length ≤ k ∧ Hid (∃ vs, wr.ownsRow w.heap.size 34 1 ov L.length vs ∧ OwnRs wr w.heap.size vs L ∧ Apart ov vs ∧ Below w.heap.size w wr) ∧ Hid (∀ r ∈ L, r.length ≤ 16 ∧ ∀ v ∈ r, v.fine) ∧ Hid (∀ M, StrIs s.data.toList M ↔ ∃ M2, M = L ++ M2 ∧ StrIs (s.data.toList.drop k) M2)) (fun _ av _ => s.size - (intOf av).toNat)
  case atStart => exact ⟨0, [], rfl, Nat.zero_le _, Nat.zero_le _, ⟨[], ⟨rfl, .inl ⟨rfl, rfl⟩⟩, OwnRs.nil _ _, fun x hx => (by cases hx), Below.refl _ _⟩, Lib.hid fun r hr => (by cases hr), Lib.hid fun M => by rw [List.drop_zero]; exact ⟨fun h => ⟨M, rfl, h⟩, by rintro ⟨M2, rfl, h⟩; exact h⟩⟩
  case round =>
    obtain ⟨k, L, rfl, hk, hLk, HI, HF, HR⟩ := hrel
    by_cases hlt : k < s.size
    · have hlti : (k : Int) < (s.size : Int) := by omega
      have hki : (k : Int) ≤ (s.size : Int) := by omega
      have hps : (s.extract k s.size).size ≤ 20000 := by rw [ByteArray.size_extract]; omega
      have hxz : (s.extract k s.size).size = s.size - k := by rw [ByteArray.size_extract]; omega
      obtain ⟨vs, hown, hrs, hap, hbw⟩ := HI.out
      obtain ⟨Ao, co, rfl⟩ := own_slice hown
      have HI0 := Lib.hid (And.intro hown (And.intro hrs (And.intro hap hbw)))
      clear hown hrs hap hbw HI
      go_wp2_with fail
      refine (RRead_any (s.extract k s.size) wr hps).mono ?_
      rintro e w2 ⟨v, r, n, rfl, hbeg, hb2⟩
      rcases hbeg with ⟨g1, g2, g3, g4⟩ | ⟨rfl, rfl, g2⟩
      · obtain ⟨Ar, cr, rfl⟩ := own_slice g4
        have HI2 : Hid (w2.ownsRow w.heap.size 34 1 (.slice Ao L.length co) L.length vs ∧ OwnRs w2 w.heap.size (vs ++ [.slice Ar r.length cr]) (L ++ [r]) ∧ Apart (.slice Ao L.length co) (vs ++ [.slice Ar r.length cr]) ∧ Below w.heap.size w w2) := by
          obtain ⟨h1, h2, h3, h4⟩ := HI0.out
          refine ⟨own_below h1 hb2, OwnRs.snoc (h2.below hb2) (own_weaker g4 h4.size), fun z hz => ?_, thn h4 hb2⟩
          rcases List.mem_append.1 hz with h | h
          · exact h3 z h
          · simp only [List.mem_cons, List.not_mem_nil, or_false] at h
            subst h
            cases hb : Value.ownBlock (.slice Ar r.length cr) with
            | none => exact .inl rfl
            | some g =>
              refine .inr fun e => ?_
              have := (g4.lt g hb).1
              have := (h1.lt g e.symm).2
              omega
        rw [ext_drop] at g3
        rw [hxz] at g2
        have HLi := Lib.hid g3
        obtain ⟨m, hm⟩ : ∃ m, m = k + n := ⟨_, rfl⟩
        have hmi : (k : Int) + (n : Int) = (m : Int) := by omega
        have hmz : m ≤ s.size := by omega
        have hkm : k < m := by omega
        have hn0 : ((n : Int) == 0) = false := beq_eq_false_iff_ne.2 (by omega)
        have HD : Hid (s.data.toList.drop k = rowS r ++ s.data.toList.drop m) := Lib.hid (by
          rw [g3.2, hm, ← List.drop_drop, List.take_append_drop])
        clear g1 g2 g3 g4 hb2 HI0 hm hxz hps
        by_cases hme : m < s.size
        · have hmf : decide ((s.size : Int) ≤ (m : Int)) = false := decide_eq_false (by omega)
          have hmli : (m : Int) < (s.size : Int) := by omega
          by_cases hc : s[m] = 10
          · have en : (s[m].toNat : Int) = 10 := by rw [hc]; rfl
            have ec : ((s[m].toNat : Int) == 10) = true := by rw [en]; rfl
            have hdm : s.data.toList.drop m = 10 :: s.data.toList.drop (m + 1) := by rw [drop_cons s m hme, hc]
            by_cases h16 : 16 < r.length
            · have hd16 : decide ((16 : Int) < (r.length : Int)) = true := decide_eq_true (by omega)
              have HN : Hid (∀ M, StrIs s.data.toList M → chkR [M] ≠ 0) := Lib.hid fun M hM => by
                obtain ⟨M2, rfl, h2⟩ := (HR.out M).1 hM
                obtain ⟨M3, rfl, -⟩ := str_first HLi.out.1 HD.out M2 h2
                exact chkR_big (.inr ⟨r, by simp, h16⟩)
              have HB := Lib.hid HI2.out.2.2.2
              clear h16 hdm hc HD HR HF HLi HI2
              go_wp2_with fail
              go_ret2
              exact ⟨.inr ⟨rfl, HN.out⟩, HB.out⟩
            · have hd16 : decide ((16 : Int) < (r.length : Int)) = false := decide_eq_false (by omega)
              have hdL : decide ((20000 : Int) ≤ (L.length : Int)) = false := decide_eq_false (by omega)
              have HF2 : Hid (∀ q ∈ L ++ [r], q.length ≤ 16 ∧ ∀ v ∈ q, v.fine) := Lib.hid fun q hq => by
                rcases List.mem_append.1 hq with h | h
                · exact HF.out q h
                · simp only [List.mem_cons, List.not_mem_nil, or_false] at h
                  subst h
                  exact ⟨by omega, HLi.out.1⟩
              have HR2 : Hid (∀ M, StrIs s.data.toList M ↔ ∃ M2, M = (L ++ [r]) ++ M2 ∧ StrIs (s.data.toList.drop (m + 1)) M2) := Lib.hid fun M => by
                rw [HR.out M, HD.out, hdm]
                have hno := rowS_no10 HLi.out.1
                constructor
                · rintro ⟨M2, rfl, h2⟩
                  obtain ⟨q, M3, rfl, h3, h4⟩ := (strIs_line hno M2).1 h2
                  rw [line_one h3 ⟨HLi.out.1, rfl⟩]
                  exact ⟨M3, by simp, h4⟩
                · rintro ⟨M3, rfl, h4⟩
                  exact ⟨r :: M3, by simp, (strIs_line hno _).2 ⟨r, M3, rfl, ⟨HLi.out.1, rfl⟩, h4⟩⟩
              have q2 := sread_one (Blk.new w2 34 #[.slice Ar r.length cr]) (B := w2.heap.size + 1) (by omega)
              have HQ := Lib.hid q2
              clear q2 h16 hdm hc HD HR HF HLi
              go_wp2_with (at_builtin; refine wpList_append_any _ rfl (.tmp 47) (.tmp 49) 23 rfl w.heap.size 34 i0 (.slice none 0 0) 1 24 Tryz.underlying23 hi hz0 hz1 hz2 rfl (by decide) _ _ _ rfl (HI2.out.1.alloc (.cells #[.slice Ar r.length cr] 34)) (w2.heap.size + 1) _ 1 1 [.slice Ar r.length cr] rfl HQ.out ?c1 ?c2 ?c3 ?c4 ?_)
              case c1 => intro u hu; simp only [List.mem_cons, List.not_mem_nil, or_false] at hu; subst hu; rfl
              case c2 => unfold maxLen; omega
              case c3 => omega
              case c4 => have := HI2.out.2.2.2.size; simp <;> omega
              intro v2 w3 hown2 hgr2 hu2
              have HN : Hid (∃ vs, w3.ownsRow w.heap.size 34 1 v2 (L ++ [r]).length vs ∧ OwnRs w3 w.heap.size vs (L ++ [r]) ∧ Apart v2 vs ∧ Below w.heap.size w w3) := by
                obtain ⟨y1, y2, y3, y4⟩ := HI2.out
                have z1 := y2.below (al (Below.refl _ _) (.cells #[.slice Ar r.length cr] 34))
                rw [List.length_append]
                exact ⟨_, hown2, z1.kept y3 hgr2, Apart.app z1 y3 (n := w2.heap.size + 1) (by simp) hu2, (y4.alloc y4.size _).grown hgr2 (by have := y4.size; simp <;> omega) (own_base y1)⟩
              clear hown2 hgr2 hu2 HI2 HQ
              go_wp2_with fail
              go_roundw
              case rel => exact ⟨m + 1, L ++ [r], by go_num, by omega, by simp only [List.length_append, List.length_cons, List.length_nil]; omega, HN, HF2, HR2⟩
              case measure => simp [intOf]; omega
          · have en : ¬ (s[m].toNat : Int) = 10 := fun hh => hc (UInt8.toNat_inj.1 (show s[m].toNat = 10 by omega))
            have ec : ((s[m].toNat : Int) == 10) = false := beq_eq_false_iff_ne.2 en
            have HN : Hid (∀ M, ¬ StrIs s.data.toList M) := Lib.hid fun M hM => by
              obtain ⟨M2, rfl, h2⟩ := (HR.out M).1 hM
              obtain ⟨M3, rfl, h3⟩ := str_first HLi.out.1 HD.out M2 h2
              obtain ⟨_, h4, -⟩ := drop_at h3
              exact hc h4
            have HB := Lib.hid HI2.out.2.2.2
            clear hc HD HR HF HLi HI2
            go_wp2_with fail
            go_ret2
            exact ⟨.inr ⟨rfl, fun M hM => absurd hM (HN.out M)⟩, HB.out⟩
        · have hmt : decide ((s.size : Int) ≤ (m : Int)) = true := decide_eq_true (by omega)
          have HN : Hid (∀ M, ¬ StrIs s.data.toList M) := Lib.hid fun M hM => by
            obtain ⟨M2, rfl, h2⟩ := (HR.out M).1 hM
            obtain ⟨M3, rfl, h3⟩ := str_first HLi.out.1 HD.out M2 h2
            obtain ⟨h4, -, -⟩ := drop_at h3
            exact hme h4
          have HB := Lib.hid HI2.out.2.2.2
          clear HD HR HF HLi HI2
          go_wp2_with fail
          go_ret2
          exact ⟨.inr ⟨rfl, fun M hM => absurd hM (HN.out M)⟩, HB.out⟩
      · have HN : Hid (∀ M, ¬ StrIs s.data.toList M) := Lib.hid fun M hM => by
          obtain ⟨M2, rfl, h2⟩ := (HR.out M).1 hM
          rw [ext_drop] at g2
          match M2, h2 with
          | [], h2 =>
            have h3 : s.data.toList.drop k = [] := h2.2.symm
            rw [drop_cons s k hlt] at h3
            cases h3
          | q :: M3, h2 =>
            have h3 := h2.2
            rw [strR_cons] at h3
            exact g2 q _ (h2.1 q (List.mem_cons_self ..)) h3.symm
        have HB := Lib.hid (thn HI0.out.2.2.2 hb2)
        clear g2 hb2 HR HF HI0 hxz hps
        go_wp2_with fail
        go_ret2
        exact ⟨.inr ⟨rfl, fun M hM => absurd hM (HN.out M)⟩, HB.out⟩
    · have hlf : decide ((k : Int) < (s.size : Int)) = false := decide_eq_false (by omega)
      have HM : Hid (StrIs s.data.toList L) := Lib.hid ((HR.out L).2 ⟨[], by simp, by
        rw [List.drop_eq_nil_of_le (by simpa using hlt)]
        exact (strIs_nil []).2 rfl⟩)
      have HC : Hid (chkR [L] = 0 ∧ InL L) := Lib.hid ⟨chkR_few (by omega) HF.out, inL_fine (by omega) fun r hr => ⟨by have := (HF.out r hr).1; omega, (HF.out r hr).2⟩⟩
      obtain ⟨vs, hown, hrs, hap, hbw⟩ := HI.out
      have HO : Hid (OutR w wr u4 L ∧ Below w.heap.size w wr) := Lib.hid ⟨⟨vs, hown, hrs⟩, hbw⟩
      clear hown hrs hap hbw HI HR HF
      go_wp2_with fail
      go_ret2
      exact ⟨.inl ⟨_, L, rfl, HM.out, HC.out.1, HC.out.2, HO.out.1⟩, HO.out.2⟩
end Go.Proofs.YtapnnheggjahlaaGreatDoor
namespace Go.Proofs.YtapnnheggjahlaaGreatDoor
open Go.RowKit

theorem ba_lenL {q : ByteArray} {l : List UInt8} (h : q.data.toList = l) : q.size = l.length := by
  rw [← h]; exact Array.length_toList.symm
theorem ba_eqL {q : ByteArray} {l : List UInt8} (h : q.data.toList = l) : q = ⟨l.toArray⟩ := by
  rw [← h]
set_option maxHeartbeats 2000000 in
theorem RRow_any (A : Option Addr) (c : Nat) (r : List V) (w : World) (hr : VReads w w.heap.size A r) (hf : ∀ v ∈ r, v.fine) (hn : r.length ≤ 1000000) :
    Calls Tryz.prog 80 #[.slice A r.length c] w fun e w' => e = .returned (.string ⟨(rowS r).toArray⟩) ∧ Below w.heap.size w w' := by
  have HR := Lib.hid (And.intro hr hf)
  clear hr hf
  go_enter Tryz.func80, Tryz.ntmps80
  go_wp2_with fail
  go_loopw [3, 4] (fun t i wr => ∃ (k : Nat) (q : ByteArray), k ≤ r.length ∧ i = .int .i64 k ∧ t = .string q ∧ q.size ≤ 1 + 1002 * k ∧ Hid (q.data.toList = rowPre r k) ∧ Hid (Below w.heap.size w wr)) (fun _ i _ => r.length - (intOf i).toNat)
  case atStart => exact ⟨0, _, Nat.zero_le _, rfl, rfl, by decide, Lib.hid rfl, Lib.hid (Below.refl _ _)⟩
  case round =>
    obtain ⟨k, q, hk, rfl, rfl, hq, HQ, HB⟩ := hrel
    by_cases hlt : k < r.length
    · obtain ⟨p, o, rfl, hblk, c0, c1, c2⟩ := (HR.out.1.below HB.out HB.out.size).at_ hlt
      have hfk := HR.out.2 r[k] (List.getElem_mem hlt)
      have hlti : (k : Int) < (r.length : Int) := by omega
      obtain ⟨y, hy⟩ : ∃ y : ByteArray, y = ⟨(strV r[k]).toArray⟩ := ⟨_, rfl⟩
      have hyl : y.data.toList = strV r[k] := by rw [hy]
      have hys : y.size ≤ 1000 := by rw [ba_lenL hyl]; exact strV_len hfk
      have HX : Hid (Calls Tryz.prog 102 #[.agg #[.int .i64 r[k].k, .int .i64 r[k].n, .string r[k].s]] wr fun e w' => e = .returned (.string y) ∧ Below wr.heap.size wr w') := Lib.hid (by
        rw [hy]; exact rString_right _ _ _ wr hfk.1 hfk.2)
      have hp0 : rowPre r (k + 1) = (rowPre r k ++ if 0 < k then [44, 32] else []) ++ y.data.toList := by
        rw [rowPre, hyl, List.getElem?_eq_getElem hlt]; rfl
      have HP := Lib.hid hp0
      clear hfk hy hyl hp0
      rcases Nat.eq_zero_or_pos k with hk0 | hk0
      · have hkz : decide (0 < k) = false := decide_eq_false (by omega)
        have hkn : ¬ 0 < k := by omega
        have HE : Hid (rowPre r (k + 1) = rowPre r k ++ y.data.toList) := Lib.hid (by rw [HP.out, if_neg (by omega), List.append_nil])
        clear hk0
        go_wp2_with fail
        refine HX.out.mono ?_
        rintro e w9 ⟨rfl, hb9⟩
        have W9 := Lib.hid (thn HB.out hb9)
        clear hb9 HX c0 c1 c2
        go_wp2_with fail
        go_roundw
        case rel => exact ⟨k + 1, q ++ y, by omega, by go_num, rfl, by rw [ByteArray.size_append]; omega, Lib.hid (by rw [HE.out, ByteArray.data_append, Array.toList_append, HQ.out]), W9⟩
        case measure => simp [intOf]; omega
      · have hkz : decide (0 < k) = true := decide_eq_true (by omega)
        have hkn : 0 < k := by omega
        have HE : Hid (rowPre r (k + 1) = (rowPre r k ++ [44, 32]) ++ y.data.toList) := Lib.hid (by rw [HP.out, if_pos hk0])
        clear hk0
        go_wp2_with fail
        refine HX.out.mono ?_
        rintro e w9 ⟨rfl, hb9⟩
        have W9 := Lib.hid (thn HB.out hb9)
        clear hb9 HX c0 c1 c2
        go_wp2_with fail
        go_roundw
        case rel => exact ⟨k + 1, q ++ ⟨#[44, 32]⟩ ++ y, by omega, by go_num, rfl, by rw [ByteArray.size_append, ByteArray.size_append]; show q.size + 2 + y.size ≤ _; omega, Lib.hid (by rw [HE.out, ByteArray.data_append, ByteArray.data_append, Array.toList_append, Array.toList_append, HQ.out]), W9⟩
        case measure => simp [intOf]; omega
    · have hkn : k = r.length := by omega
      subst hkn
      have HE : Hid ((q ++ ⟨#[41]⟩ : ByteArray) = ⟨(rowS r).toArray⟩) := Lib.hid (ba_eqL (by rw [ByteArray.data_append, Array.toList_append, HQ.out]; rfl))
      go_wp2_with fail
      go_ret
      exact ⟨by rw [← HE.out]; rfl, HB.out⟩
theorem strR_len {L : List (List V)} (h : ∀ r ∈ L, r.length ≤ 16 ∧ ∀ v ∈ r, v.fine) : (strR L).length ≤ 20000 * L.length := by
  induction L with
  | nil => exact Nat.zero_le _
  | cons r L ih =>
    have h1 := ih fun q hq => h q (List.mem_cons_of_mem _ hq)
    have h2 := rowS_len (h r (List.mem_cons_self ..)).2
    have h3 := (h r (List.mem_cons_self ..)).1
    rw [strR_cons, List.length_append, List.length_cons, List.length_cons]
    omega
set_option maxHeartbeats 2000000 in
theorem RStringR_any (A : Option Addr) (c : Nat) (L : List (List V)) (w : World) (hr : LReads w w.heap.size A L) (hf : ∀ r ∈ L, r.length ≤ 16 ∧ ∀ v ∈ r, v.fine) (hn : L.length ≤ 20000) :
    Calls Tryz.prog 45 #[.slice A L.length c] w fun e w' => e = .returned (.string ⟨(strR L).toArray⟩) ∧ Below w.heap.size w w' := by
  have HR := Lib.hid (And.intro hr hf)
  obtain ⟨i0, hi, hz0, hz1, hz2⟩ := info_parts bld_info
  clear hr hf
  go_enter Tryz.func45, Tryz.ntmps45
  go_wp2_with fail
  go_loopw [3, 4] (fun b i wr => ∃ k : Nat, k ≤ L.length ∧ i = .int .i64 k ∧ Hid (wr.ownsRow w.heap.size 5 1 b (strR (L.take k)).length (Lib.byteCells (strR (L.take k))) ∧ Below w.heap.size w wr)) (fun _ i _ => L.length - (intOf i).toNat)
  case atStart => exact ⟨0, Nat.zero_le _, rfl, Lib.hid ⟨World.ownsRow_nil _ _ _ _, Below.refl _ _⟩⟩
  case round =>
    obtain ⟨k, hk, rfl, HI⟩ := hrel
    by_cases hlt : k < L.length
    · obtain ⟨p, o, Ar, cr, rfl, hblk, hcell, hpl, hv⟩ := (HR.out.1.below HI.out.2 HI.out.2.size).at_ hlt
      have hfk := HR.out.2 L[k] (List.getElem_mem hlt)
      have hlti : (k : Int) < (L.length : Int) := by omega
      have HX : Hid (Calls Tryz.prog 80 #[.slice Ar L[k].length cr] wr fun e w' => e = .returned (.string ⟨(rowS L[k]).toArray⟩) ∧ Below wr.heap.size wr w') := Lib.hid (RRow_any Ar cr L[k] wr hv hfk.2 (by omega))
      obtain ⟨y, hy⟩ : ∃ y : ByteArray, y = ⟨(rowS L[k]).toArray⟩ := ⟨_, rfl⟩
      have hyl : y.data.toList = rowS L[k] := by rw [hy]
      rw [← hy] at HX
      have hys : y.size ≤ 20000 := by
        rw [ba_lenL hyl]
        have := rowS_len hfk.2
        have := hfk.1
        omega
      have HN : Hid (strR (L.take (k + 1)) = strR (L.take k) ++ (y ++ ⟨#[10]⟩ : ByteArray).data.toList) := Lib.hid (by
        rw [List.take_succ_eq_append_getElem hlt, strR_snoc, ByteArray.data_append, Array.toList_append, hyl]
        simp)
      have HL : Hid ((strR (L.take k)).length ≤ 20000 * 20000) := Lib.hid (by
        have h1 := strR_len (L := L.take k) fun r hr => HR.out.2 r (List.mem_of_mem_take hr)
        have h2 : (L.take k).length ≤ 20000 := by rw [List.length_take]; omega
        omega)
      clear hpl hv hfk hy hyl
      go_wp2_with fail
      refine HX.out.mono ?_
      rintro e w2 ⟨rfl, hb2⟩
      have HI2 := Lib.hid (And.intro (own_below HI.out.1 hb2) (thn HI.out.2 hb2))
      clear hb2 HX HI hcell
      go_wp2_with (at_builtin; refine Lib.wpList_append_own_string _ rfl (.tmp 11) (.tmp 17) 108 9 rfl w.heap.size 5 i0 Tryz.underlying108 Tryz.underlying9 hi hz0 hz1 hz2 _ _ _ rfl HI2.out.1 (y ++ ⟨#[10]⟩) rfl ?c1 ?c2 ?c3 ?_)
      case c1 => have := HL.out; rw [ByteArray.size_append]; show _ + (y.size + 1) ≤ _; unfold maxLen; omega
      case c2 => have := HL.out; rw [ByteArray.size_append]; show _ + (y.size + 1) ≤ _; omega
      case c3 => exact HI2.out.2.size
      intro v' w3 hown hgr _
      have HI3 : Hid (w3.ownsRow w.heap.size 5 1 v' (strR (L.take (k + 1))).length (Lib.byteCells (strR (L.take (k + 1)))) ∧ Below w.heap.size w w3) := by
        refine ⟨?_, HI2.out.2.grown hgr HI2.out.2.size (own_base HI2.out.1)⟩
        have e2 : (y ++ ⟨#[10]⟩ : ByteArray).data.toList.length = y.size + 1 := by
          rw [← ba_lenL rfl, ByteArray.size_append]; rfl
        rw [HN.out, List.length_append, Lib.byteCells_append, e2]
        exact hown
      clear hown hgr HI2 HN HL
      go_wp2_with fail
      go_roundw
      case rel => exact ⟨k + 1, by omega, by go_num, HI3⟩
      case measure => simp [intOf]; omega
    · have hkn : k = L.length := by omega
      subst hkn
      have hI := HI.out
      rw [List.take_length] at hI
      have HO := Lib.hid hI
      have HC : Hid ((convert 108 9 u3).run Tryz.prog wr = .ok (.string ⟨(strR L).toArray⟩) wr) := Lib.hid (by
        obtain ⟨h1, -⟩ := hI
        rcases h1.2 with ⟨rfl, h0⟩ | ⟨g, cap, cur, rfl, hg, hh, hnc, _, hsz, htk⟩
        · have e : strR L = [] := List.eq_nil_of_length_eq_zero h0
          rw [e]
          exact Lib.run_convert_nil_bytes wr _ _ 5 0 Tryz.underlying108 Tryz.underlying5 Tryz.underlying9
        · exact run_convert_bytes_back wr _ _ 5 ⟨g, 0, none⟩ cap (strR L) Tryz.underlying108 Tryz.underlying5 Tryz.underlying9 (Lib.bytes_of_row hh (by simpa using htk))
      )
      have hcv := HC.out
      clear hI HI
      go_wp2_with fail
      go_ret
      exact ⟨rfl, HO.out.2⟩
end Go.Proofs.YtapnnheggjahlaaGreatDoor
