/-
  CONTRACT of the reference: Tame.
-/
import Derived.Test.YtmhddoikicapjaaGreatDoorVal10
import Derived.Test.YtmhddoikicapjaaGreatDoorUniC
import Derived.Laws.IdiomStrings
namespace Go.Proofs.YtmhddoikicapjaaGreatDoor
open Go.RowKit

/-- the byte that Tame makes of a byte -/
def tameB (c : UInt8) : UInt8 := UInt8.ofNat (32 + c.toNat % 95)
theorem tameB_nat (c : UInt8) : ((tameB c).toNat : Int) = 32 + (c.toNat : Int) % 95 := by
  unfold tameB
  rw [UInt8.toNat_ofNat']
  omega
theorem tameB_ok (c : UInt8) : okByte (tameB c) = true := by
  have h := tameB_nat c
  rw [okByte_iff]
  omega
/-- string of one byte, freshly laid -/
theorem tame_byte (c : UInt8) (w : World) :
    (convert 56 9 (.slice (some ⟨w.heap.size, 0, none⟩) 1 1)).run Tryz.prog (w.alloc (.cells #[.int .u8 (32 + (c.toNat : Int) % 95)] 5)) = .ok (.string ⟨#[tameB c]⟩) (w.alloc (.cells #[.int .u8 (32 + (c.toNat : Int) % 95)] 5)) := by
  rw [← tameB_nat]
  refine run_convert_bytes_back (P := Tryz.prog) _ _ _ 5 ⟨w.heap.size, 0, none⟩ 1 [tameB c] Tryz.underlying56 Tryz.underlying5 Tryz.underlying9 fun j hj => ?_
  have h0 : j = 0 := by simpa using hj
  subst h0
  have hb := (Blk.new w 5 #[.int .u8 ((tameB c).toNat : Int)]).cell 0
  exact hb

set_option maxHeartbeats 400000 in
set_option maxRecDepth 100000 in
theorem Tame_any (k n : Int) (s : ByteArray) (w : World) (hn : I64 n) (hs : s.size ≤ maxLen) :
    Calls Tryz.prog 15 #[.agg #[.int .i64 k, .int .i64 n, .string s]] w fun e w' => ∃ x : V, e = .returned (.agg #[.int .i64 x.k, .int .i64 x.n, .string x.s]) ∧ V.ok x = true ∧ I64 x.n ∧ Below w.heap.size w w' := by
  go_enter Tryz.func15, Tryz.ntmps15
  have R1 : Blk ((w.alloc (.cells #[.int .i64 k, .int .i64 n, .string s] 35)).alloc (.cells #[.int .i64 0, .int .i64 0, .string ⟨#[]⟩] 35)) (w.heap.size + 1) 35 #[.int .i64 0, .int .i64 0, .string ⟨#[]⟩] := Blk.new' (by simp)
  have W0 : Below w.heap.size w ((w.alloc (.cells #[.int .i64 k, .int .i64 n, .string s] 35)).alloc (.cells #[.int .i64 0, .int .i64 0, .string ⟨#[]⟩] 35)) := al (al (Below.refl _ _) _) _
  go_upto_if 9 with fail
  generalize (IntKind.u64.wrap k).tmod 4 = m
  by_cases h1 : m = 1
  · have e1 : (m == 1) = true := by simp [h1]
    go_wp2_with fail
    refine (rInt_any _ _).mono ?_
    rintro e w1 ⟨rfl, hb1⟩
    have W1 := thn W0 hb1
    have R2 := R1.below hb1 (by simp)
    obtain ⟨⟨k0, k1, k2⟩, f0, f1, f2⟩ := R2.three
    clear hb1 R1
    go_wp2_with fail
    refine bodyPost_ret (v := .agg #[.int .i64 1, .int .i64 n, .string ⟨#[]⟩]) (by simp [results, Tryz.results15, go_sem, k0, k1, k2]) rfl ⟨⟨1, n, ⟨#[]⟩⟩, rfl, ?_, ?_, st3 W1 (by simp) _ _ _⟩
    · rfl
    · exact hn
  · have e1 : (m == 1) = false := by simp [h1]
    clear h1
    by_cases h2 : m = 2
    · have e2 : (m == 2) = true := by simp [h2]
      go_wp2_with fail
      refine (rBool_any _ _).mono ?_
      rintro e w1 ⟨rfl, hb1⟩
      have W1 := thn W0 hb1
      have R2 := R1.below hb1 (by simp)
      obtain ⟨⟨k0, k1, k2⟩, f0, f1, f2⟩ := R2.three
      clear hb1 R1
      go_wp2_with fail
      refine bodyPost_ret (v := .agg #[.int .i64 2, .int .i64 (b2i (n.tmod 2 != 0)), .string ⟨#[]⟩]) (by simp [results, Tryz.results15, go_sem, k0, k1, k2]) rfl ⟨⟨2, (b2i (n.tmod 2 != 0)), ⟨#[]⟩⟩, rfl, ?_, ?_, st3 W1 (by simp) _ _ _⟩
      · cases (n.tmod 2 != 0) <;> decide
      · cases (n.tmod 2 != 0) <;> exact ⟨by decide, by decide⟩
    · have e2 : (m == 2) = false := by simp [h2]
      clear h2
      by_cases h3 : m = 3
      · have e3 : (m == 3) = true := by simp [h3]
        have hs := Nat.le_trans hs (Nat.le_refl _)
        unfold maxLen at hs
        have HB0 := Lib.hid W0
        have R0 := (Blk.new' (w := w) (g := w.heap.size) (t := 35) (cs := #[.int .i64 k, .int .i64 n, .string s]) rfl).alloc (.cells #[.int .i64 0, .int .i64 0, .string ⟨#[]⟩] 35)
        clear W0
        go_wp2_with fail
        go_loopw [3, 4] (fun t i wr => ∃ (j : Nat) (q : ByteArray), j ≤ s.size ∧ j ≤ 12 ∧ i = .int .i64 j ∧ t = .string q ∧ Hid (okBytes q.data.toList = true) ∧ q.size = j ∧ Hid (Below w.heap.size w wr) ∧ Blk wr w.heap.size 35 #[.int .i64 k, .int .i64 n, .string s] ∧ Blk wr (w.heap.size + 1) 35 #[.int .i64 0, .int .i64 0, .string ⟨#[]⟩]) (fun _ i _ => s.size - (intOf i).toNat)
        case atStart => exact ⟨0, _, Nat.zero_le _, Nat.zero_le _, rfl, rfl, rfl, rfl, HB0.out, R0, R1⟩
        case round =>
          obtain ⟨j, q, hj, hj12, rfl, rfl, HQ, hq, HB, B0, B1⟩ := hrel
          obtain ⟨⟨a0, a1, a2⟩, ax⟩ := B0.three
          clear ax
          by_cases hc : j < s.size ∧ j < 12
          · obtain ⟨hlt, hl12⟩ := hc
            have hv := tame_byte s[j] wr
            go_wp2_with fail
            go_roundw
            case rel =>
              refine ⟨j + 1, _, by omega, by omega, by go_num, rfl, ?_, ?_, al HB.out _, B0.alloc _, B1.alloc _⟩
              · show _ = _
                rw [ByteArray.data_append, Array.toList_append]
                show okBytes (q.data.toList ++ [tameB s[j]]) = true
                rw [okBytes_snoc, HQ.out, tameB_ok]; rfl
              · rw [ByteArray.size_append, hq]; rfl
            case measure => simp [intOf]; omega
          · by_cases hlt : j < s.size
            · have hl12 : ¬ j < 12 := fun h => hc ⟨hlt, h⟩
              clear hc
              go_wp2_with fail
              refine (rText_any _ _).mono ?_
              rintro e w1 ⟨rfl, hb1⟩
              have W1 := thn HB.out hb1
              have R2 := B1.below hb1 B1.lt
              obtain ⟨⟨k0, k1, k2⟩, f0, f1, f2⟩ := R2.three
              clear hb1 R1
              go_wp2_with fail
              refine bodyPost_ret (v := .agg #[.int .i64 3, .int .i64 0, .string q]) (by simp [results, Tryz.results15, go_sem, k0, k1, k2]) rfl ⟨⟨3, 0, q⟩, rfl, ?_, ?_, st3 W1 (by simp) _ _ _⟩
              · show okVal 3 0 q.data.toList = true
                unfold okVal okText
                rw [HQ.out]
                simp; omega
              · show I64 0
                exact ⟨by decide, by decide⟩
            · clear hc
              go_wp2_with fail
              refine (rText_any _ _).mono ?_
              rintro e w1 ⟨rfl, hb1⟩
              have W1 := thn HB.out hb1
              have R2 := B1.below hb1 B1.lt
              obtain ⟨⟨k0, k1, k2⟩, f0, f1, f2⟩ := R2.three
              clear hb1 R1
              go_wp2_with fail
              refine bodyPost_ret (v := .agg #[.int .i64 3, .int .i64 0, .string q]) (by simp [results, Tryz.results15, go_sem, k0, k1, k2]) rfl ⟨⟨3, 0, q⟩, rfl, ?_, ?_, st3 W1 (by simp) _ _ _⟩
              · show okVal 3 0 q.data.toList = true
                unfold okVal okText
                rw [HQ.out]
                simp; omega
              · show I64 0
                exact ⟨by decide, by decide⟩
      · have e3 : (m == 3) = false := by simp [h3]
        go_wp2_with fail
        refine (rNull_any _).mono ?_
        rintro e w1 ⟨rfl, hb1⟩
        have W1 := thn W0 hb1
        have R2 := R1.below hb1 (by simp)
        obtain ⟨⟨k0, k1, k2⟩, f0, f1, f2⟩ := R2.three
        clear hb1 R1
        go_wp2_with fail
        refine bodyPost_ret (v := .agg #[.int .i64 0, .int .i64 0, .string ⟨#[]⟩]) (by simp [results, Tryz.results15, go_sem, k0, k1, k2]) rfl ⟨⟨0, 0, ⟨#[]⟩⟩, rfl, ?_, ?_, st3 W1 (by simp) _ _ _⟩
        · rfl
        · exact ⟨by decide, by decide⟩
end Go.Proofs.YtmhddoikicapjaaGreatDoor
