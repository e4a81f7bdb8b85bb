/-
  THE WALK of TokenReads: the tokens of any string, or the error.
-/
import Derived.Test.YtphgbfgccagcbaaGreatDoorGA11
namespace Go.Proofs.YtphgbfgccagcbaaGreatDoor
open Go.RowKit

theorem tk_len {ts : List (Nat × List UInt8 × Nat)} {a : Nat} {l : List UInt8} (h : tkB a l = some ts) : ts.length ≤ l.length := by
  have key : ∀ (f a : Nat) (l : List UInt8) (ts : List (Nat × List UInt8 × Nat)), Tok.toks isWd formed isNu isTx f a l = some ts → ts.length ≤ l.length := by
    intro f
    induction f with
    | zero =>
      intro a l ts h
      cases l with
      | nil => simp only [Tok.toks, Option.some.injEq] at h; subst h; simp
      | cons c l => simp [Tok.toks] at h
    | succ f ih =>
      intro a l ts h
      cases l with
      | nil => simp only [Tok.toks, Option.some.injEq] at h; subst h; simp
      | cons c l =>
        rw [Tok.toks] at h
        split at h
        · have := ih _ _ _ h
          simp only [List.length_cons]; omega
        · split at h
          · cases h
          · rename_i k t ho
            split at h
            · cases h
            · rename_i r hr
              injection h with h
              subst h
              have h1 := List.length_pos_iff.2 (Tok.one_at ho).1
              have h2 := ih _ _ _ hr
              rw [List.length_drop] at h2
              simp only [List.length_cons] at h2 ⊢
              omega
  exact key _ _ _ _ h
set_option maxHeartbeats 4000000 in
set_option maxRecDepth 100000 in
theorem TokenReads_any (s : ByteArray) (w : World) (hG : GT w) (hs : s.size ≤ maxLen) :
    Calls Tryz.prog 3 #[.string s] w fun e w' => e = .returned (.bool true) ∧ Below w.heap.size w w' := by
  have HG := Lib.hid hG
  have hs := Nat.le_trans hs (Nat.le_refl _)
  unfold maxLen at hs
  clear hG
  by_cases hle : (s.size : Int) ≤ 4002
  · have hmn : min (s.size : Int) 4002 = (s.size : Int) := by omega
    go_enter Tryz.func3, Tryz.ntmps3
    go_wp2_with fail
    have hu : s.size ≤ 4002 := by omega
    obtain ⟨u, rfl⟩ : ∃ u : ByteArray, u = s := ⟨s, rfl⟩
    clear hle
    refine (PTokens_any u w HG.out (by omega)).mono ?_
    rintro e w1 ⟨⟨v, ts, r, rfl, ho, hc⟩, hb⟩
    obtain ⟨A, c, rfl, hr⟩ := ho.reads
    have H1 := Lib.hid (And.intro hr hb)
    clear ho hr hb
    rcases hc with ⟨h1, rfl, rfl⟩ | ⟨h1, hno, rfl, rfl⟩ | ⟨h1, hts, rfl⟩
    · have hd : decide ((4000 : Int) < (u.size : Int)) = true := decide_eq_true (by omega)
      have HGw := Lib.hid (HG.out.thn H1.out.2)
      clear h1 hu
      go_wp2_with fail
      refine (awake8_any _ HGw.out).mono ?_
      rintro e w2 ⟨rfl, hb2⟩
      have H2 := Lib.hid (thn H1.out.2 hb2)
      clear hb2
      go_wp2_with fail
      go_ret
      exact ⟨rfl, H2.out⟩
    · have hd : decide ((4000 : Int) < (u.size : Int)) = false := decide_eq_false (by omega)
      have HNo := Lib.hid hno
      clear hno
      go_wp2_with fail
      refine (RTokens_any u _ (by omega)).mono ?_
      rintro e w2 ⟨hrt, hb2⟩
      rcases hrt with ⟨v2, ts2, rfl, h2, -⟩ | ⟨rfl, -⟩
      · rw [HNo.out] at h2; cases h2
      have H2 := Lib.hid (thn H1.out.2 hb2)
      have HGw := Lib.hid (HG.out.thn H2.out)
      clear hb2 h1 hu H1
      go_wp2_with fail
      refine (awake8_any _ HGw.out).mono ?_
      rintro e w3 ⟨rfl, hb3⟩
      have H3 := Lib.hid (thn H2.out hb3)
      clear hb3
      go_wp2_with fail
      go_ret
      exact ⟨rfl, H3.out⟩
    · have hd : decide ((4000 : Int) < (u.size : Int)) = false := decide_eq_false (by omega)
      have HTs := Lib.hid hts
      have hlen := tk_len hts
      rw [Array.length_toList] at hlen
      have hlen2 : (ts.map toTk).length ≤ 4002 := by rw [List.length_map]; exact Nat.le_trans hlen hu
      clear hts hlen
      obtain ⟨L, hL⟩ : ∃ L, L = ts.map toTk := ⟨_, rfl⟩
      have HL := Lib.hid hL
      rw [← hL] at H1 hlen2 ⊢
      clear hL
      go_wp2_with fail
      refine (RTokens_any u _ (by omega)).mono ?_
      rintro e w2 ⟨hrt, hb2⟩
      rcases hrt with ⟨v2, ts2, rfl, h2, ho2⟩ | ⟨rfl, h2⟩
      · rw [HTs.out] at h2
        injection h2 with h2
        subst h2
        rw [← HL.out] at ho2
        obtain ⟨A2, c2, rfl, hr2⟩ := ho2.reads
        have H2 := Lib.hid (And.intro (H1.out.1.below hb2 hb2.size) (And.intro hr2 (thn H1.out.2 hb2)))
        clear ho2 hr2 hb2 h1 hu H1
        go_wp2_with fail
        refine (same_yes A A2 c c2 L _ H2.out.1 H2.out.2.1 (by omega)).mono ?_
        rintro e w3 ⟨rfl, hb3⟩
        have H3 := Lib.hid (thn H2.out.2.2 hb3)
        have HGw := Lib.hid (HG.out.thn H3.out)
        clear hb3 H2
        go_wp2_with fail
        refine (awake8_any _ HGw.out).mono ?_
        rintro e w4 ⟨rfl, hb4⟩
        have H4 := Lib.hid (thn H3.out hb4)
        clear hb4
        go_wp2_with fail
        go_ret
        exact ⟨rfl, H4.out⟩
      · rw [HTs.out] at h2; cases h2
  · have hgt : (4002 : Int) < (s.size : Int) := by omega
    have hmn : min (s.size : Int) 4002 = 4002 := by omega
    go_enter Tryz.func3, Tryz.ntmps3
    go_wp2_with fail
    have hu : (s.extract 0 4002).size ≤ 4002 := by rw [ByteArray.size_extract]; omega
    generalize s.extract 0 4002 = u at *
    clear hle hgt
    refine (PTokens_any u w HG.out (by omega)).mono ?_
    rintro e w1 ⟨⟨v, ts, r, rfl, ho, hc⟩, hb⟩
    obtain ⟨A, c, rfl, hr⟩ := ho.reads
    have H1 := Lib.hid (And.intro hr hb)
    clear ho hr hb
    rcases hc with ⟨h1, rfl, rfl⟩ | ⟨h1, hno, rfl, rfl⟩ | ⟨h1, hts, rfl⟩
    · have hd : decide ((4000 : Int) < (u.size : Int)) = true := decide_eq_true (by omega)
      have HGw := Lib.hid (HG.out.thn H1.out.2)
      clear h1 hu
      go_wp2_with fail
      refine (awake8_any _ HGw.out).mono ?_
      rintro e w2 ⟨rfl, hb2⟩
      have H2 := Lib.hid (thn H1.out.2 hb2)
      clear hb2
      go_wp2_with fail
      go_ret
      exact ⟨rfl, H2.out⟩
    · have hd : decide ((4000 : Int) < (u.size : Int)) = false := decide_eq_false (by omega)
      have HNo := Lib.hid hno
      clear hno
      go_wp2_with fail
      refine (RTokens_any u _ (by omega)).mono ?_
      rintro e w2 ⟨hrt, hb2⟩
      rcases hrt with ⟨v2, ts2, rfl, h2, -⟩ | ⟨rfl, -⟩
      · rw [HNo.out] at h2; cases h2
      have H2 := Lib.hid (thn H1.out.2 hb2)
      have HGw := Lib.hid (HG.out.thn H2.out)
      clear hb2 h1 hu H1
      go_wp2_with fail
      refine (awake8_any _ HGw.out).mono ?_
      rintro e w3 ⟨rfl, hb3⟩
      have H3 := Lib.hid (thn H2.out hb3)
      clear hb3
      go_wp2_with fail
      go_ret
      exact ⟨rfl, H3.out⟩
    · have hd : decide ((4000 : Int) < (u.size : Int)) = false := decide_eq_false (by omega)
      have HTs := Lib.hid hts
      have hlen := tk_len hts
      rw [Array.length_toList] at hlen
      have hlen2 : (ts.map toTk).length ≤ 4002 := by rw [List.length_map]; exact Nat.le_trans hlen hu
      clear hts hlen
      obtain ⟨L, hL⟩ : ∃ L, L = ts.map toTk := ⟨_, rfl⟩
      have HL := Lib.hid hL
      rw [← hL] at H1 hlen2 ⊢
      clear hL
      go_wp2_with fail
      refine (RTokens_any u _ (by omega)).mono ?_
      rintro e w2 ⟨hrt, hb2⟩
      rcases hrt with ⟨v2, ts2, rfl, h2, ho2⟩ | ⟨rfl, h2⟩
      · rw [HTs.out] at h2
        injection h2 with h2
        subst h2
        rw [← HL.out] at ho2
        obtain ⟨A2, c2, rfl, hr2⟩ := ho2.reads
        have H2 := Lib.hid (And.intro (H1.out.1.below hb2 hb2.size) (And.intro hr2 (thn H1.out.2 hb2)))
        clear ho2 hr2 hb2 h1 hu H1
        go_wp2_with fail
        refine (same_yes A A2 c c2 L _ H2.out.1 H2.out.2.1 (by omega)).mono ?_
        rintro e w3 ⟨rfl, hb3⟩
        have H3 := Lib.hid (thn H2.out.2.2 hb3)
        have HGw := Lib.hid (HG.out.thn H3.out)
        clear hb3 H2
        go_wp2_with fail
        refine (awake8_any _ HGw.out).mono ?_
        rintro e w4 ⟨rfl, hb4⟩
        have H4 := Lib.hid (thn H3.out hb4)
        clear hb4
        go_wp2_with fail
        go_ret
        exact ⟨rfl, H4.out⟩
      · rw [HTs.out] at h2; cases h2
end Go.Proofs.YtphgbfgccagcbaaGreatDoor
