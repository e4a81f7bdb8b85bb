/-
  CONTRACT of the reference: Parse of what begins with a quote, walked; Parse of any string.
-/
import Derived.Test.YtmhddoikicapjaaDoorRefP3
import Derived.Deep.CutBlock
namespace Go.Proofs.YtmhddoikicapjaaDoor
open Go.RowKit

set_option maxHeartbeats 2000000 in
set_option maxRecDepth 100000 in
theorem rParse_text (s : ByteArray) (w : World) (hs : s.size ≤ 20000) (h0 : s ≠ sNull) (h1 : s ≠ sFalse) (h2 : s ≠ sTrue) (hz : 0 < s.size) (h39 : s[0] = 39) :
    Calls Tryd.prog 7 #[.string s] w fun e w' => ∃ (x : V) (b : Bool), e = .returned (.tuple #[.agg #[.int .i64 x.k, .int .i64 x.n, .string x.s], .bool b]) ∧ Ans s x b ∧ Below w.heap.size w w' := by
  have e0 : (s.toList == [110, 117, 108, 108]) = false := by rw [beq_null]; exact decide_eq_false h0
  have e1 : (s.toList == [116, 114, 117, 101]) = false := by rw [beq_true]; exact decide_eq_false h2
  have e2 : (s.toList == [102, 97, 108, 115, 101]) = false := by rw [beq_false]; exact decide_eq_false h1
  have HS := Lib.hid hs
  have HH : Hid (s.data.toList.head? = some 39) := by rw [← h39]; exact head_at s hz
  have hcc : ((s[0].toNat : Int) == 39) = true := by rw [h39]; rfl
  have R0 := Blk.new' (w := w) (g := w.heap.size) (t := 25) (cs := #[.int .i64 0, .int .i64 0, .string ⟨#[]⟩]) rfl
  have W0 := Lib.hid (al (Below.refl w.heap.size w) (.cells #[.int .i64 0, .int .i64 0, .string ⟨#[]⟩] 25))
  clear h0 h1 h2 h39
  go_enter Tryd.func7, Tryd.ntmps7
  go_upto_block 0 with fail
  generalize hw0 : w.alloc (.cells #[.int .i64 0, .int .i64 0, .string ⟨#[]⟩] 25) = w0 at *
  clear hw0
  go_cut [4, 5] (fun t _ wx => ∃ q : ByteArray, t = .string q ∧ q.size ≤ 201 ∧ Hid (∀ l : List UInt8, s.data.toList = 39 :: (quote l ++ [39]) → l.length ≤ 200 → l = q.data.toList) ∧ wx = w0)
  case first =>
    go_wp2_with fail
    go_loop [4, 5] (fun t i => ∃ (q : ByteArray) (a : Nat), t = .string q ∧ i = .int .i64 a ∧ 1 ≤ a ∧ a ≤ s.size ∧ q.size ≤ 201 ∧ Hid (Inv s q.data.toList a)) (fun _ i => s.size - (intOf i).toNat)
    case atStart => exact ⟨_, 1, rfl, rfl, Nat.le_refl _, hz, by decide, Inv.start s⟩
    case round =>
      obtain ⟨q, a, rfl, rfl, ha1, ha2, hq, HI⟩ := hrel
      by_cases hlt : a + 1 < s.size
      · have hlti : (a : Int) < (s.size : Int) - 1 := by omega
        by_cases hq2 : q.size ≤ 200
        · have hqi : (q.size : Int) ≤ 200 := by omega
          have hla : a < s.size := by omega
          have hx := extract_one s a hla
          have HX := Lib.hid hx
          have hxs : (s.extract a (a + 1)).size = 1 := by
            rw [ByteArray.size_extract]; omega
          have hst := HI.out.step hla hlt
          clear hx
          by_cases hc : s[a] = 39
          · have ec : ((s[a].toNat : Int) == 39) = true := by simp [hc]
            rw [if_pos hc] at hst
            have HT := Lib.hid hst
            clear hst hc
            go_wp2_with fail
            go_round
            case rel =>
              refine ⟨_, a + 2, rfl, by go_num, by omega, by omega, by rw [ByteArray.size_append, hxs]; omega, ?_⟩
              show Inv s _ _
              rw [ByteArray.data_append, Array.toList_append, HX.out]
              exact HT.out
            case measure => simp [intOf]; omega
          · have ec : ((s[a].toNat : Int) == 39) = false := by
              rw [beq_eq_false_iff_ne]
              intro e
              exact hc (UInt8.toNat_inj.1 (by show s[a].toNat = 39; omega))
            rw [if_neg hc] at hst
            have HT := Lib.hid hst
            clear hst hc
            go_wp2_with fail
            go_round
            case rel =>
              refine ⟨_, a + 1, rfl, by go_num, by omega, by omega, by rw [ByteArray.size_append, hxs]; omega, ?_⟩
              show Inv s _ _
              rw [ByteArray.data_append, Array.toList_append, HX.out]
              exact HT.out
            case measure => simp [intOf]; omega
        · have hqi : ¬ (q.size : Int) ≤ 200 := by omega
          have HD : Hid (∀ l : List UInt8, s.data.toList = 39 :: (quote l ++ [39]) → l.length ≤ 200 → l = q.data.toList) := fun l hl h200 => HI.out.done (.inr (by have : q.data.toList.length = q.size := Array.length_toList; omega)) hl h200
          go_wp2_with fail
          go_meet
          case rel => exact ⟨q, rfl, hq, HD, rfl⟩
      · have hlti : ¬ (a : Int) < (s.size : Int) - 1 := by omega
        have HD : Hid (∀ l : List UInt8, s.data.toList = 39 :: (quote l ++ [39]) → l.length ≤ 200 → l = q.data.toList) := fun l hl h200 => HI.out.done (.inl (by omega)) hl h200
        go_wp2_with fail
        go_meet
        case rel => exact ⟨q, rfl, hq, HD, rfl⟩
  case rest =>
    obtain ⟨q, rfl, hq, HD, hwx⟩ := hcut
    subst hwx
    rename_i w0
    go_wp2_with fail
    refine (rText_any q _).mono ?_
    rintro e w1 ⟨rfl, hB⟩
    have W1 := Lib.hid (thn W0.out hB)
    have R1 := R0.below hB R0.lt
    have hgv : w.heap.size < w1.heap.size := R1.lt
    clear hB R0 W0
    go_upto_region 14 with fail
    have V2 := Blk.new' (w := w1) (g := w1.heap.size) (t := 25) (cs := #[.int .i64 3, .int .i64 0, .string q]) rfl
    have R2 := R1.alloc (.cells #[.int .i64 3, .int .i64 0, .string q] 25)
    have W2 := Lib.hid (al W1.out (.cells #[.int .i64 3, .int .i64 0, .string q] 25))
    clear R1 W1
    generalize w1.alloc (.cells #[.int .i64 3, .int .i64 0, .string q] 25) = w2 at *
    have hqm : q.size ≤ maxLen := by unfold maxLen; omega
    have hqk : q.size ≤ 1000000 := by omega
    obtain ⟨⟨v0, v1, v2⟩, vx⟩ := V2.three
    obtain ⟨⟨r0, r1, r2⟩, f0, f1, f2⟩ := R2.three
    clear vx
    go_cut [3, 56, 57, 58, 59, 60, 61, 62, 63, 64] (fun b _ _ _ _ _ _ _ _ _ wx => ∃ B : Bool, b = .bool B ∧ Hid (Ans s ⟨3, 0, q⟩ B) ∧ Hid (Below w.heap.size w wx) ∧ Blk wx w.heap.size 25 #[.int .i64 3, .int .i64 0, .string q])
    case first =>
      by_cases hok : okVal 3 0 q.data.toList = true
      · have HOK := Lib.hid hok
        have htx : okText q.data.toList = true := hok
        have hE := beq_ba ⟨(39 :: (quote q.data.toList ++ [39])).toArray⟩ s
        rw [ByteArray.toList_mk (39 :: (quote q.data.toList ++ [39]))] at hE
        have HA : Hid (Ans s ⟨3, 0, q⟩ (decide ((⟨(39 :: (quote q.data.toList ++ [39])).toArray⟩ : ByteArray) = s))) :=
          ⟨fun h => Ans.bytes htx (of_decide_eq_true h), fun h => no_text HH.out HD.out (.inr (of_decide_eq_false h))⟩
        generalize decide ((⟨(39 :: (quote q.data.toList ++ [39])).toArray⟩ : ByteArray) = s) = B at hE HA
        clear hok htx
        first
        | (go_region_with (first
            | (go_at_call 9; refine (Right_any 3 0 q _ hqm).mono ?_; rintro e w3 ⟨rfl, hB3⟩; rw [HOK.out]; have hB4 : Below w2.heap.size w2 w3 := ⟨hB3.os, hB3.tape, hB3.output, hB3.size, hB3.block⟩; have R3 := R2.below hB4 R2.lt; have V3 := V2.below hB4 V2.lt; have W3 := Lib.hid (thn W2.out hB4); obtain ⟨⟨s0, s1, s2⟩, g0, g1, g2⟩ := R3.three; obtain ⟨⟨u0, u1, u2⟩, ux⟩ := V3.three; clear ux hB3 hB4 R2 V2 W2 v0 v1 v2 r0 r1 r2 f0 f1 f2)
            | (go_at_call 21; refine (rString_text 0 q _ hqk).mono ?_; rintro e w4 ⟨rfl, hB3⟩; have hB4 : Below w3.heap.size w3 w4 := ⟨hB3.os, hB3.tape, hB3.output, hB3.size, hB3.block⟩; have R4 := R3.below hB4 R3.lt; have V4 := V3.below hB4 V3.lt; have W4 := Lib.hid (thn W3.out hB4); obtain ⟨⟨s0, s1, s2⟩, g0, g1, g2⟩ := R4.three; obtain ⟨⟨u0, u1, u2⟩, ux⟩ := V4.three; clear ux hB3 hB4 R3 V3 W3)))
        | fail
        all_goals go_wp2_with fail
        all_goals go_meet
        all_goals exact ⟨B, rfl, HA.out, st3 W4.out (Nat.le_refl _) _ _ _, R4.three_set _ _ _⟩
      · have hok0 : okVal 3 0 q.data.toList = false := by simpa using hok
        have HOK := Lib.hid hok0
        have HA : Hid (Ans s ⟨3, 0, q⟩ false) := ⟨(fun h => by cases h), fun _ => no_text HH.out HD.out (.inl hok0)⟩
        clear hok hok0
        first
        | (go_region_with (go_at_call 9; refine (Right_any 3 0 q _ hqm).mono ?_; rintro e w3 ⟨rfl, hB3⟩; rw [HOK.out]; have hB4 : Below w2.heap.size w2 w3 := ⟨hB3.os, hB3.tape, hB3.output, hB3.size, hB3.block⟩; have R3 := R2.below hB4 R2.lt; have V3 := V2.below hB4 V2.lt; have W3 := Lib.hid (thn W2.out hB4); obtain ⟨⟨s0, s1, s2⟩, g0, g1, g2⟩ := R3.three; obtain ⟨⟨u0, u1, u2⟩, ux⟩ := V3.three; clear ux hB3 hB4 R2 V2 W2 v0 v1 v2 r0 r1 r2 f0 f1 f2))
        | fail
        all_goals go_wp2_with fail
        all_goals go_meet
        all_goals exact ⟨false, rfl, HA.out, st3 W3.out (Nat.le_refl _) _ _ _, R3.three_set _ _ _⟩
    case rest =>
      obtain ⟨B, rfl, HA, HB, BR⟩ := hcut
      obtain ⟨⟨k0, k1, k2⟩, f0, f1, f2⟩ := BR.three
      go_wp2_with fail
      exact bodyPost_ret (v := .tuple #[.agg #[.int .i64 3, .int .i64 0, .string q], .bool B]) (by simp [results, Tryd.results7, go_sem, k0, k1, k2]) rfl ⟨⟨3, 0, q⟩, B, rfl, HA.out, HB.out⟩

theorem rParse_any (s : ByteArray) (w : World) (hs : s.size ≤ 20000) :
    Calls Tryd.prog 7 #[.string s] w fun e w' => ∃ (x : V) (b : Bool), e = .returned (.tuple #[.agg #[.int .i64 x.k, .int .i64 x.n, .string x.s], .bool b]) ∧ Ans s x b ∧ Below w.heap.size w w' := by
  by_cases h0 : s = sNull
  · exact rParse_word s w (.inl h0)
  · by_cases h1 : s = sFalse
    · exact rParse_word s w (.inr (.inl h1))
    · by_cases h2 : s = sTrue
      · exact rParse_word s w (.inr (.inr h2))
      · by_cases h39 : s.data.toList.head? = some 39
        · have hz : 0 < s.size := by
            have hsz : s.data.toList.length = s.size := Array.length_toList
            cases hl : s.data.toList with
            | nil => rw [hl] at h39; cases h39
            | cons c r => rw [hl] at hsz; simp at hsz; omega
          have e := head_at s hz
          rw [h39] at e
          exact rParse_text s w hs h0 h1 h2 hz (Option.some.inj e).symm
        · exact rParse_num s w hs h0 h1 h2 h39
end Go.Proofs.YtmhddoikicapjaaDoor
