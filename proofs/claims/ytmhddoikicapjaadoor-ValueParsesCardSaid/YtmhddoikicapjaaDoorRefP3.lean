/-
  CONTRACT of the reference: Parse, walked.
-/
import Derived.Test.YtmhddoikicapjaaDoorRefP2
import Derived.Deep.RegionHeld3
namespace Go.Proofs.YtmhddoikicapjaaDoor
open Go.RowKit

theorem beq_null (s : ByteArray) : (s.toList == [110, 117, 108, 108]) = decide (s = sNull) := by
  have h := beq_ba s sNull
  rw [toList_eq sNull] at h
  exact h
theorem beq_true (s : ByteArray) : (s.toList == [116, 114, 117, 101]) = decide (s = sTrue) := by
  have h := beq_ba s sTrue
  rw [toList_eq sTrue] at h
  exact h
theorem beq_false (s : ByteArray) : (s.toList == [102, 97, 108, 115, 101]) = decide (s = sFalse) := by
  have h := beq_ba s sFalse
  rw [toList_eq sFalse] at h
  exact h
theorem ansP (s : ByteArray) {x : V} (h : parses s = true ∧ readV s = x) : Ans s x true := ⟨fun _ => h, (fun h => by cases h)⟩
set_option maxHeartbeats 1000000 in
set_option maxRecDepth 100000 in
theorem rParse_num (s : ByteArray) (w : World) (hs : s.size ≤ 20000) (h0 : s ≠ sNull) (h1 : s ≠ sFalse) (h2 : s ≠ sTrue) (h39 : s.data.toList.head? ≠ some 39) :
    Calls Tryd.prog 7 #[.string s] w fun e w' => ∃ (x : V) (b : Bool), e = .returned (.tuple #[.agg #[.int .i64 x.k, .int .i64 x.n, .string x.s], .bool b]) ∧ Ans s x b ∧ Below w.heap.size w w' := by
  have HN := Lib.hid (fun h => no_num (s := s) h h0 h1 h2 h39)
  have e0 : (s.toList == [110, 117, 108, 108]) = false := by rw [beq_null]; exact decide_eq_false h0
  have e1 : (s.toList == [116, 114, 117, 101]) = false := by rw [beq_true]; exact decide_eq_false h2
  have e2 : (s.toList == [102, 97, 108, 115, 101]) = false := by rw [beq_false]; exact decide_eq_false h1
  have HS := Lib.hid hs
  have R0 := Blk.new' (w := w) (g := w.heap.size) (t := 25) (cs := #[.int .i64 0, .int .i64 0, .string ⟨#[]⟩]) rfl
  have hlt0 : w.heap.size < (w.alloc (.cells #[.int .i64 0, .int .i64 0, .string ⟨#[]⟩] 25)).heap.size := by simp
  clear h0 h1 h2 hs
  by_cases hz : 0 < s.size
  · have hc : ¬ s[0] = 39 := fun e => h39 (by rw [head_at s hz, e])
    have hcc : ((s[0].toNat : Int) == 39) = false := by
      rw [beq_eq_false_iff_ne]
      intro e
      exact hc (UInt8.toNat_inj.1 (by show s[0].toNat = 39; omega))
    clear h39 hc
    go_enter Tryd.func7, Tryd.ntmps7
    go_wp2_with fail
    refine (rNumber_any s _ (by have := HS.out; unfold maxLen; omega)).mono ?_
    rintro e w1 ⟨n, b, rfl, hn, hb1, hb2, hB⟩
    have HA : Hid (Ans s ⟨1, n, ⟨#[]⟩⟩ b) := ⟨fun h => by
      have e := hb1 h
      rw [← e]
      exact parses_num n hn, fun h => HN.out (hb2 h)⟩
    have W1 := Lib.hid (thn (al (Below.refl _ w) _) hB)
    have R1 := R0.below hB hlt0
    clear hb1 hb2 hB hn
    go_wp2_with fail
    refine (rInt_any n _).mono ?_
    rintro e w2 ⟨rfl, hB⟩
    have W2 := Lib.hid (thn W1.out hB)
    obtain ⟨⟨r0, r1, r2⟩, f0, f1, f2⟩ := (R1.below hB R1.lt).three
    clear hB R1 R0
    go_wp2_with fail
    exact bodyPost_ret (v := .tuple #[.agg #[.int .i64 1, .int .i64 n, .string ⟨#[]⟩], .bool b]) (by simp [results, Tryd.results7, go_sem, r0, r1, r2]) rfl ⟨⟨1, n, ⟨#[]⟩⟩, b, rfl, HA.out, st3 W2.out (Nat.le_refl _) _ _ _⟩
  · clear h39
    go_enter Tryd.func7, Tryd.ntmps7
    go_wp2_with fail
    refine (rNumber_any s _ (by have := HS.out; unfold maxLen; omega)).mono ?_
    rintro e w1 ⟨n, b, rfl, hn, hb1, hb2, hB⟩
    have HA : Hid (Ans s ⟨1, n, ⟨#[]⟩⟩ b) := ⟨fun h => by
      have e := hb1 h
      rw [← e]
      exact parses_num n hn, fun h => HN.out (hb2 h)⟩
    have W1 := Lib.hid (thn (al (Below.refl _ w) _) hB)
    have R1 := R0.below hB hlt0
    clear hb1 hb2 hB hn
    go_wp2_with fail
    refine (rInt_any n _).mono ?_
    rintro e w2 ⟨rfl, hB⟩
    have W2 := Lib.hid (thn W1.out hB)
    obtain ⟨⟨r0, r1, r2⟩, f0, f1, f2⟩ := (R1.below hB R1.lt).three
    clear hB R1 R0
    go_wp2_with fail
    exact bodyPost_ret (v := .tuple #[.agg #[.int .i64 1, .int .i64 n, .string ⟨#[]⟩], .bool b]) (by simp [results, Tryd.results7, go_sem, r0, r1, r2]) rfl ⟨⟨1, n, ⟨#[]⟩⟩, b, rfl, HA.out, st3 W2.out (Nat.le_refl _) _ _ _⟩

set_option maxHeartbeats 1000000 in
set_option maxRecDepth 100000 in
theorem rParse_word (s : ByteArray) (w : World) (h : s = sNull ∨ s = sFalse ∨ s = sTrue) :
    Calls Tryd.prog 7 #[.string s] w fun e w' => ∃ (x : V) (b : Bool), e = .returned (.tuple #[.agg #[.int .i64 x.k, .int .i64 x.n, .string x.s], .bool b]) ∧ Ans s x b ∧ Below w.heap.size w w' := by
  have R0 := Blk.new' (w := w) (g := w.heap.size) (t := 25) (cs := #[.int .i64 0, .int .i64 0, .string ⟨#[]⟩]) rfl
  have hlt0 : w.heap.size < (w.alloc (.cells #[.int .i64 0, .int .i64 0, .string ⟨#[]⟩] 25)).heap.size := by simp
  rcases h with rfl | rfl | rfl
  · have e0 : (sNull.toList == [110, 117, 108, 108]) = true := by rw [beq_null]; decide
    have HA := Lib.hid (ansP sNull parses_null)
    obtain ⟨⟨r0, r1, r2⟩, f0, f1, f2⟩ := R0.three
    go_enter Tryd.func7, Tryd.ntmps7
    go_wp2_with fail
    exact bodyPost_ret (v := .tuple #[.agg #[.int .i64 0, .int .i64 0, .string ⟨#[]⟩], .bool true]) (by simp [results, Tryd.results7, go_sem, r0, r1, r2]) rfl ⟨⟨0, 0, ⟨#[]⟩⟩, true, rfl, HA.out, al (Below.refl _ _) _⟩
  · have e0 : (sFalse.toList == [110, 117, 108, 108]) = false := by rw [beq_null]; decide
    have e1 : (sFalse.toList == [116, 114, 117, 101]) = false := by rw [beq_true]; decide
    have e2 : (sFalse.toList == [102, 97, 108, 115, 101]) = true := by rw [beq_false]; decide
    have HA := Lib.hid (ansP sFalse parses_false)
    go_enter Tryd.func7, Tryd.ntmps7
    go_wp2_with fail
    refine (rBool_any false _).mono ?_
    rintro e w1 ⟨rfl, hB⟩
    have W1 := Lib.hid (thn (al (Below.refl _ w) _) hB)
    obtain ⟨⟨r0, r1, r2⟩, f0, f1, f2⟩ := (R0.below hB hlt0).three
    clear hB R0
    go_wp2_with fail
    exact bodyPost_ret (v := .tuple #[.agg #[.int .i64 2, .int .i64 0, .string ⟨#[]⟩], .bool true]) (by simp [results, Tryd.results7, go_sem, r0, r1, r2, b2i]) rfl ⟨⟨2, 0, ⟨#[]⟩⟩, true, rfl, HA.out, st3 W1.out (Nat.le_refl _) _ _ _⟩
  · have e0 : (sTrue.toList == [110, 117, 108, 108]) = false := by rw [beq_null]; decide
    have e1 : (sTrue.toList == [116, 114, 117, 101]) = true := by rw [beq_true]; decide
    have HA := Lib.hid (ansP sTrue parses_true)
    go_enter Tryd.func7, Tryd.ntmps7
    go_wp2_with fail
    refine (rBool_any true _).mono ?_
    rintro e w1 ⟨rfl, hB⟩
    have W1 := Lib.hid (thn (al (Below.refl _ w) _) hB)
    obtain ⟨⟨r0, r1, r2⟩, f0, f1, f2⟩ := (R0.below hB hlt0).three
    clear hB R0
    go_wp2_with fail
    exact bodyPost_ret (v := .tuple #[.agg #[.int .i64 2, .int .i64 1, .string ⟨#[]⟩], .bool true]) (by simp [results, Tryd.results7, go_sem, r0, r1, r2, b2i]) rfl ⟨⟨2, 1, ⟨#[]⟩⟩, true, rfl, HA.out, st3 W1.out (Nat.le_refl _) _ _ _⟩
end Go.Proofs.YtmhddoikicapjaaDoor
