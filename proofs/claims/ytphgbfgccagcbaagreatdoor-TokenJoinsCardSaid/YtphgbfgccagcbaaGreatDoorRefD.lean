/-
  CONTRACT of the reference: Digits.
-/
import Derived.Test.YtphgbfgccagcbaaGreatDoorGA02
import Derived.Lib.ItoaMem
import Derived.Laws.IdiomStrings
import Derived.Lib.ItoaLen
namespace Go.Proofs.YtphgbfgccagcbaaGreatDoor
open Go.RowKit

theorem tdiv10 (n : Int) : n.tdiv 10 = if 0 ≤ n then n / 10 else -((-n) / 10) := by
  split
  · exact Int.tdiv_eq_ediv_of_nonneg (by assumption)
  · have h : n.tdiv 10 = -((-n).tdiv 10) := by rw [Int.neg_tdiv, Int.neg_neg]
    rw [h, Int.tdiv_eq_ediv_of_nonneg (by omega)]
theorem tmod10 (n : Int) : n.tmod 10 = if 0 ≤ n then n % 10 else -((-n) % 10) := by
  split
  · exact Int.tmod_eq_emod_of_nonneg (by assumption)
  · have h : n.tmod 10 = -((-n).tmod 10) := by rw [Int.neg_tmod, Int.neg_neg]
    rw [h, Int.tmod_eq_emod_of_nonneg (by omega)]
/-- a number's last digit -/
def lastD (n : Int) : UInt8 := UInt8.ofNat (48 + n.natAbs % 10)
theorem itoa_neg1 {n : Int} (h : n < 0) (h1 : -10 < n) : Lib.itoa n = [45, lastD n] := by
  unfold Lib.itoa lastD
  rw [if_pos h, Lib.decDigits_one (by omega), Nat.mod_eq_of_lt (by omega)]
theorem dec_step {u : Nat} (h : ¬ u < 10) : Lib.decDigits u = Lib.decDigits (u / 10) ++ [UInt8.ofNat (48 + u % 10)] := by rw [Lib.decDigits, dif_neg h]
theorem itoa_neg2 {n : Int} (h1 : n ≤ -10) : Lib.itoa n = Lib.itoa (n.tdiv 10) ++ [lastD n] := by
  have hd := tdiv10 n
  rw [if_neg (by omega)] at hd
  have e : (n.tdiv 10).natAbs = n.natAbs / 10 := by omega
  have e2 : n.tdiv 10 < 0 := by omega
  unfold Lib.itoa lastD
  rw [if_pos (by omega), if_pos e2, e, dec_step (by omega)]; rfl
theorem itoa_pos1 {n : Int} (h : 0 ≤ n) (h1 : n < 10) : Lib.itoa n = [lastD n] := by
  have e : n.toNat = n.natAbs := by omega
  unfold Lib.itoa lastD
  rw [if_neg (by omega), e, Lib.decDigits_one (by omega), Nat.mod_eq_of_lt (by omega)]
theorem itoa_pos2 {n : Int} (h1 : 10 ≤ n) : Lib.itoa n = Lib.itoa (n.tdiv 10) ++ [lastD n] := by
  have hd := tdiv10 n
  rw [if_pos (by omega)] at hd
  have e : (n.tdiv 10).toNat = n.natAbs / 10 := by omega
  have e2 : ¬ n.tdiv 10 < 0 := by omega
  have e3 : n.toNat = n.natAbs := by omega
  unfold Lib.itoa lastD
  rw [if_neg (by omega), if_neg e2, e, e3, dec_step (by omega)]

theorem last_nat (n : Int) : ((lastD n).toNat : Int) = 48 + n.natAbs % 10 := by
  unfold lastD
  rw [UInt8.toNat_ofNat']
  omega
/-- string of one byte, freshly laid -/
theorem one_byte (n x : Int) (w : World) (hx : x = ((lastD n).toNat : Int)) :
    (convert 54 9 (.slice (some ⟨w.heap.size, 0, none⟩) 1 1)).run Tryz.prog (w.alloc (.cells #[.int .u8 x] 5)) = .ok (.string ⟨#[lastD n]⟩) (w.alloc (.cells #[.int .u8 x] 5)) := by
  subst hx
  refine run_convert_bytes_back (P := Tryz.prog) _ _ _ 5 ⟨w.heap.size, 0, none⟩ 1 [lastD n] Tryz.underlying54 Tryz.underlying5 Tryz.underlying9 fun j hj => ?_
  have h0 : j = 0 := by simpa using hj
  subst h0
  have hb := (Blk.new w 5 #[.int .u8 ((lastD n).toNat : Int)]).cell 0
  exact hb
theorem lo_neg {n : Int} (h : n < 0) : wrap64 (48 - n.tmod 10) % 256 = ((lastD n).toNat : Int) := by
  have hm := tmod10 n
  rw [if_neg (by omega)] at hm
  rw [last_nat]
  unfold wrap64
  omega
theorem lo_pos {n : Int} (h : 0 ≤ n) : 48 + n % 10 = ((lastD n).toNat : Int) := by
  rw [last_nat]
  omega

theorem ret_st {a b : ByteArray} (h : a = b) : Ending.returned (.string a) = .returned (.string b) := by rw [h]
theorem add_one (l : List UInt8) (x : UInt8) : ((⟨l.toArray⟩ : ByteArray) ++ ⟨#[x]⟩) = ⟨(l ++ [x]).toArray⟩ := by
  apply ByteArray.ext
  simp
set_option maxHeartbeats 400000 in
set_option maxRecDepth 100000 in
theorem rDigits_any (m : Nat) : ∀ (n : Int) (w : World), n.natAbs < m → -9223372036854775808 ≤ n → n ≤ 9223372036854775807 →
    Calls Tryz.prog 59 #[.int .i64 n] w fun e w' => e = .returned (.string ⟨(Lib.itoa n).toArray⟩) ∧ Below w.heap.size w w' := by
  induction m with
  | zero => intro n w hm; omega
  | succ m ih =>
    intro n w hm h0 h1
    by_cases hn : n < 0
    · have hc := one_byte n _ w (lo_neg hn)
      by_cases h10 : -10 < n
      · have HR := Lib.hid (itoa_neg1 hn h10)
        go_enter Tryz.func59, Tryz.ntmps59
        go_wp2_with fail
        go_ret
        exact ⟨ret_st (by rw [HR.out]; exact add_one [45] _), al (Below.refl _ _) _⟩
      · have HR := Lib.hid (itoa_neg2 (n := n) (by omega))
        have hd := tdiv10 n
        rw [if_neg (by omega)] at hd
        have HI := fun w => ih (n.tdiv 10) w (by omega) (by omega) (by omega)
        have hl := Lib.itoa_length_le (n.tdiv 10) (by omega) (by omega)
        have hl2 : ¬ (9223372036854775807 : Int) < ((Lib.itoa (n.tdiv 10)).length : Int) + 1 := by omega
        clear hd ih
        go_enter Tryz.func59, Tryz.ntmps59
        go_wp2_with fail
        refine (HI _).mono ?_
        rintro e w1 ⟨rfl, hb1⟩
        go_wp2_with fail
        go_ret
        exact ⟨ret_st (by rw [HR.out]; exact add_one _ _), thn (al (Below.refl _ _) _) hb1⟩
    · have hp : 0 ≤ n := by omega
      have hc := one_byte n _ w (lo_pos hp)
      by_cases h10 : n < 10
      · have HR := Lib.hid (itoa_pos1 hp h10)
        go_enter Tryz.func59, Tryz.ntmps59
        go_wp2_with fail
        go_ret
        exact ⟨ret_st (by rw [HR.out]), al (Below.refl _ _) _⟩
      · have HR := Lib.hid (itoa_pos2 (n := n) (by omega))
        have hd := tdiv10 n
        rw [if_pos (by omega)] at hd
        rw [hd] at HR
        have HI := fun w => ih (n / 10) w (by omega) (by omega) (by omega)
        have hl := Lib.itoa_length_le (n / 10) (by omega) (by omega)
        have hl2 : ¬ (9223372036854775807 : Int) < ((Lib.itoa (n / 10)).length : Int) + 1 := by omega
        clear hd ih
        go_enter Tryz.func59, Tryz.ntmps59
        go_wp2_with fail
        refine (HI _).mono ?_
        rintro e w1 ⟨rfl, hb1⟩
        go_wp2_with fail
        go_ret
        exact ⟨ret_st (by rw [HR.out]; exact add_one _ _), thn (al (Below.refl _ _) _) hb1⟩
end Go.Proofs.YtphgbfgccagcbaaGreatDoor
