/-
  CONTRACTS of package value: read, Parse.
-/
import Derived.Test.YtmhddoikicapjaaGreatDoorVal8
namespace Go.Proofs.YtmhddoikicapjaaGreatDoor
open Go.RowKit

theorem idx2_0 (a b s : ByteArray) (h : s = a) : Lib.idxOfS [a, b] s = 0 := by
  have := Lib.idxOfS_hit [a, b] 2 0 s (by decide) (by simp) (by simp [h]) (fun j hj => absurd hj (Nat.not_lt_zero _))
  simpa using this
theorem idx2_1 (a b s : ByteArray) (ha : s ≠ a) (h : s = b) : Lib.idxOfS [a, b] s = 1 := by
  have := Lib.idxOfS_hit [a, b] 2 1 s (by decide) (by simp) (by simp [h]) (fun j hj => by
    obtain rfl : j = 0 := by omega
    simpa using fun e => ha e.symm)
  simpa using this
theorem idx2_no (a b s : ByteArray) (ha : s ≠ a) (hb : s ≠ b) : Lib.idxOfS [a, b] s = -1 := by
  have := Lib.idxOfS_miss [a, b] 2 s (fun j hj => by
    match j, hj with
    | 0, _ => simpa using fun e => ha e.symm
    | 1, _ => simpa using fun e => hb e.symm)
  simpa using this

def idx2 (a b s : ByteArray) : Int := if s = a then 0 else if s = b then 1 else -1
theorem index2 (g : Nat) (a b s : ByteArray) (w : World) (h : Blk w g 64 #[.string a, .string b]) :
    Calls Tryz.prog 53 #[.slice (some ⟨g, 0, none⟩) 2 2, .string s] w fun e w' => e = .returned (.int .i64 (idx2 a b s)) ∧ w = w' := by
  refine (Tryz.slices_Index_string g 0 2 2 [a, b] s w (by simp) (by decide) (fun j hj => ?_)).mono fun e w' ⟨he, hw⟩ => ⟨?_, hw.symm⟩
  · match j, hj with
    | 0, _ => exact h.cell 0
    | 1, _ => exact h.cell 1
  · rw [he]
    have e2 : List.take 2 [a, b] = [a, b] := rfl
    rw [e2]
    unfold idx2
    by_cases h1 : s = a
    · rw [idx2_0 a b s h1, if_pos h1]
    · by_cases h2 : s = b
      · rw [idx2_1 a b s h1 h2, if_neg h1, if_pos h2]
      · rw [idx2_no a b s h1 h2, if_neg h1, if_neg h2]

/-- the number that read finds -/
def numV (s : ByteArray) : Int := match Lib.parseIntB 64 s.data.toList with
  | .ok v => v
  | .range => Lib.intSat 64 s.data.toList
  | _ => 0
/-- the text that read finds -/
def textV (s : ByteArray) : ByteArray := ⟨(Lib.replaceAll (Lib.trimSuffix (Lib.trimPrefix s.data.toList [39]) [39]) [39, 39] [39]).toArray⟩
/-- what read returns -/
def readV (s : ByteArray) : V :=
  if s = sNull then ⟨0, 0, ⟨#[]⟩⟩ else if s = ⟨#[]⟩ then ⟨0, 1, ⟨#[]⟩⟩ else if s = sFalse then ⟨2, 0, ⟨#[]⟩⟩ else if s = sTrue then ⟨2, 1, ⟨#[]⟩⟩
  else if Lib.hasPrefix s.data.toList [39] = true then ⟨3, 0, textV s⟩ else ⟨1, numV s, ⟨#[]⟩⟩

theorem trimPrefix_len (s p : List UInt8) : (Lib.trimPrefix s p).length ≤ s.length := by unfold Lib.trimPrefix; split <;> simp
theorem trimSuffix_len (s p : List UInt8) : (Lib.trimSuffix s p).length ≤ s.length := by unfold Lib.trimSuffix; split <;> simp
theorem below_bytes (w : World) (e : TypeId) (s : ByteArray) : Below w.heap.size w (Lib.bytesWorld w e s) :=
  ⟨rfl, rfl, rfl, by rw [Lib.bytesWorld_size]; omega, fun j hj => Lib.bytesWorld_at_old w e s j hj⟩
theorem idx8_0 (a b c d e f g h : ByteArray) (w : World) : (Instr.index 65 (.agg #[.string a, .string b, .string c, .string d, .string e, .string f, .string g, .string h]) (.int .i64 0)).run Tryz.prog w = .ok (.agg #[.string a, .string b]) w := by kernel_rfl
theorem idx8_1 (a b c d e f g h : ByteArray) (w : World) : (Instr.index 65 (.agg #[.string a, .string b, .string c, .string d, .string e, .string f, .string g, .string h]) (.int .i64 1)).run Tryz.prog w = .ok (.agg #[.string c, .string d]) w := by kernel_rfl
theorem idx8_2 (a b c d e f g h : ByteArray) (w : World) : (Instr.index 65 (.agg #[.string a, .string b, .string c, .string d, .string e, .string f, .string g, .string h]) (.int .i64 2)).run Tryz.prog w = .ok (.agg #[.string e, .string f]) w := by kernel_rfl
theorem idx8_3 (a b c d e f g h : ByteArray) (w : World) : (Instr.index 65 (.agg #[.string a, .string b, .string c, .string d, .string e, .string f, .string g, .string h]) (.int .i64 3)).run Tryz.prog w = .ok (.agg #[.string g, .string h]) w := by kernel_rfl

set_option maxHeartbeats 1000000 in
set_option maxRecDepth 100000 in
theorem read_any (s : ByteArray) (w : World) (hG : G w) (hs : s.size ≤ 1000000) :
    Calls Tryz.prog 41 #[.string s] w fun e w' => e = .returned (.agg #[.int .i64 (readV s).k, .int .i64 (readV s).n, .string (readV s).s]) ∧ Below w.heap.size w w' := by
  obtain ⟨q0, q1, q2, q3, q4, q5, q6, q7⟩ := hG.cells
  have hbig : 0 < w.heap.size := by have := hG.big; omega
  have HG := Lib.hid hG
  have HS := Lib.hid hs
  clear hG hs
  have i0 := @idx8_0
  have i1 := @idx8_1
  have i2 := @idx8_2
  have i3 := @idx8_3
  go_enter Tryz.func41, Tryz.ntmps41
  go_wp2_with fail
  go_loopw [11] (fun i wr => ∃ k : Int, (k = 0 ∨ k = 1 ∨ k = 2 ∨ k = 3 ∨ k = 4) ∧ i = .int .i64 k ∧ Hid (1 ≤ k → s ≠ sNull ∧ s ≠ ⟨#[]⟩) ∧ Hid (3 ≤ k → s ≠ sFalse ∧ s ≠ sTrue) ∧ Hid (Below w.heap.size w wr) ∧ Blk wr w.heap.size 35 #[.int .i64 0, .int .i64 0, .string ⟨#[]⟩]) (fun i _ => (4 - intOf i).toNat)
  case atStart => exact ⟨0, .inl rfl, rfl, fun h => absurd h (by omega), fun h => absurd h (by omega), al (Below.refl _ _) _, Blk.new' rfl⟩
  case round =>
    obtain ⟨k, hk, rfl, h1, h3, HB, BR⟩ := hrel
    clear q0 q1 q2 q3 q4 q5 q6 q7
    obtain ⟨⟨r0, r1, r2⟩, f0, f1, f2⟩ := BR.three
    have hlt := BR.lt
    rcases hk with rfl | rfl | rfl | rfl | rfl
    · by_cases c1 : s = sNull
      · have HR : Hid (readV s = ⟨0, 0, ⟨#[]⟩⟩) := if_pos c1
        have hi : idx2 sNull ⟨#[]⟩ s = 0 := if_pos c1
        clear c1
        go_wp2_with fail
        refine (index2 _ _ _ s _ (Blk.new' rfl)).mono ?_
        rintro e w2 ⟨rfl, rfl⟩
        rw [hi]
        go_wp2_with fail
        refine bodyPost_ret (v := .agg #[.int .i64 0, .int .i64 0, .string ⟨#[]⟩]) (by simp [results, Tryz.results41, go_sem, r0, r1, r2, hlt]) rfl ⟨?_, al (st3 HB.out (Nat.le_refl _) _ _ _) _⟩
        rw [HR.out]
      · by_cases c2 : s = ⟨#[]⟩
        · have HR : Hid (readV s = ⟨0, 1, ⟨#[]⟩⟩) := (if_neg c1).trans (if_pos c2)
          have hi : idx2 sNull ⟨#[]⟩ s = 1 := (if_neg c1).trans (if_pos c2)
          clear c1 c2
          go_wp2_with fail
          refine (index2 _ _ _ s _ (Blk.new' rfl)).mono ?_
          rintro e w2 ⟨rfl, rfl⟩
          rw [hi]
          go_wp2_with fail
          refine bodyPost_ret (v := .agg #[.int .i64 0, .int .i64 1, .string ⟨#[]⟩]) (by simp [results, Tryz.results41, go_sem, r0, r1, r2, hlt]) rfl ⟨?_, al (st3 HB.out (Nat.le_refl _) _ _ _) _⟩
          rw [HR.out]
        · have hc1 := Lib.hid c1
          have hc2 := Lib.hid c2
          have hi : idx2 sNull ⟨#[]⟩ s = -1 := (if_neg c1).trans (if_neg c2)
          clear c1 c2
          go_wp2_with fail
          refine (index2 _ _ _ s _ (Blk.new' rfl)).mono ?_
          rintro e w2 ⟨rfl, rfl⟩
          rw [hi]
          go_wp2_with fail
          go_roundw
          case rel => exact ⟨1, by omega, rfl, fun _ => ⟨hc1.out, hc2.out⟩, fun h => absurd h (by omega), al HB.out _, BR.alloc _⟩
          case measure => simp [intOf]
    · have c1 := (h1.out (by omega)).2
      have hi : idx2 ⟨#[]⟩ ⟨#[]⟩ s = -1 := (if_neg c1).trans (if_neg c1)
      clear c1
      go_wp2_with fail
      refine (index2 _ _ _ s _ (Blk.new' rfl)).mono ?_
      rintro e w2 ⟨rfl, rfl⟩
      rw [hi]
      go_wp2_with fail
      go_roundw
      case rel => exact ⟨2, by omega, rfl, fun _ => h1.out (by omega), fun h => absurd h (by omega), al HB.out _, BR.alloc _⟩
      case measure => simp [intOf]
    · have n1 := Lib.hid (h1.out (by omega))
      by_cases c1 : s = sFalse
      · have HR : Hid (readV s = ⟨2, 0, ⟨#[]⟩⟩) := (if_neg n1.out.1).trans ((if_neg n1.out.2).trans (if_pos c1))
        have hi : idx2 sFalse sTrue s = 0 := if_pos c1
        clear c1
        go_wp2_with fail
        refine (index2 _ _ _ s _ (Blk.new' rfl)).mono ?_
        rintro e w2 ⟨rfl, rfl⟩
        rw [hi]
        go_wp2_with fail
        refine bodyPost_ret (v := .agg #[.int .i64 2, .int .i64 0, .string ⟨#[]⟩]) (by simp [results, Tryz.results41, go_sem, r0, r1, r2, hlt]) rfl ⟨?_, al (st3 HB.out (Nat.le_refl _) _ _ _) _⟩
        rw [HR.out]
      · by_cases c2 : s = sTrue
        · have HR : Hid (readV s = ⟨2, 1, ⟨#[]⟩⟩) := (if_neg n1.out.1).trans ((if_neg n1.out.2).trans ((if_neg c1).trans (if_pos c2)))
          have hi : idx2 sFalse sTrue s = 1 := (if_neg c1).trans (if_pos c2)
          clear c1 c2
          go_wp2_with fail
          refine (index2 _ _ _ s _ (Blk.new' rfl)).mono ?_
          rintro e w2 ⟨rfl, rfl⟩
          rw [hi]
          go_wp2_with fail
          refine bodyPost_ret (v := .agg #[.int .i64 2, .int .i64 1, .string ⟨#[]⟩]) (by simp [results, Tryz.results41, go_sem, r0, r1, r2, hlt]) rfl ⟨?_, al (st3 HB.out (Nat.le_refl _) _ _ _) _⟩
          rw [HR.out]
        · have hc1 := Lib.hid c1
          have hc2 := Lib.hid c2
          have hi : idx2 sFalse sTrue s = -1 := (if_neg c1).trans (if_neg c2)
          clear c1 c2
          go_wp2_with fail
          refine (index2 _ _ _ s _ (Blk.new' rfl)).mono ?_
          rintro e w2 ⟨rfl, rfl⟩
          rw [hi]
          go_wp2_with fail
          go_roundw
          case rel => exact ⟨3, by omega, rfl, fun _ => n1.out, fun _ => ⟨hc1.out, hc2.out⟩, al HB.out _, BR.alloc _⟩
          case measure => simp [intOf]
    · have c1 := (h1.out (by omega)).2
      have hi : idx2 ⟨#[]⟩ ⟨#[]⟩ s = -1 := (if_neg c1).trans (if_neg c1)
      clear c1
      go_wp2_with fail
      refine (index2 _ _ _ s _ (Blk.new' rfl)).mono ?_
      rintro e w2 ⟨rfl, rfl⟩
      rw [hi]
      go_wp2_with fail
      go_roundw
      case rel => exact ⟨4, by omega, rfl, fun _ => h1.out (by omega), fun _ => h3.out (by omega), al HB.out _, BR.alloc _⟩
      case measure => simp [intOf]
    · have n1 := Lib.hid (h1.out (by omega))
      have n3 := Lib.hid (h3.out (by omega))
      have HGr := Lib.hid (HG.out.thn HB.out)
      go_wp2_with fail
      refine (Tryz.strings_CutPrefix s ⟨#[39]⟩ _).mono ?_
      rintro e w2 ⟨rfl, hw2⟩
      obtain rfl : wr = w2 := hw2.symm
      by_cases hp : Lib.hasPrefix s.data.toList [39] = true
      · have HR : Hid (readV s = ⟨3, 0, textV s⟩) := (if_neg n1.out.1).trans ((if_neg n1.out.2).trans ((if_neg n3.out.1).trans ((if_neg n3.out.2).trans (if_pos hp))))
        have hp' : Lib.hasPrefix s.data.toList (⟨#[39]⟩ : ByteArray).data.toList = true := hp
        rw [hp']
        clear hp hp'
        have hL := trimPrefix_len s.data.toList [39]
        have hT : Hid (textV s = ⟨(Lib.replaceAll (Lib.trimSuffix (Lib.trimPrefix s.data.toList (⟨#[39]⟩ : ByteArray).data.toList) [39]) [39, 39] [39]).toArray⟩) := rfl
        change (Lib.trimPrefix s.data.toList (⟨#[39]⟩ : ByteArray).data.toList).length ≤ _ at hL
        generalize Lib.trimPrefix s.data.toList (⟨#[39]⟩ : ByteArray).data.toList = p at hL hT ⊢
        have HL : Hid (p.length ≤ 1000000) := by
          have e1 : s.data.toList.length = s.size := Array.length_toList
          rw [e1] at hL
          exact Nat.le_trans hL HS.out
        clear hL
        go_wp2_with fail
        refine (Tryz.strings_TrimSuffix ⟨p.toArray⟩ ⟨#[39]⟩ _ (by have := HL.out; simp [ByteArray.size]; omega)).mono ?_
        rintro e w2 ⟨rfl, rfl⟩
        have hL2 := trimSuffix_len p [39]
        have hT2 : Hid (textV s = ⟨(Lib.replaceAll (Lib.trimSuffix (⟨p.toArray⟩ : ByteArray).data.toList (⟨#[39]⟩ : ByteArray).data.toList) [39, 39] [39]).toArray⟩) := hT.out
        change (Lib.trimSuffix (⟨p.toArray⟩ : ByteArray).data.toList (⟨#[39]⟩ : ByteArray).data.toList).length ≤ _ at hL2
        generalize Lib.trimSuffix (⟨p.toArray⟩ : ByteArray).data.toList (⟨#[39]⟩ : ByteArray).data.toList = q at hL2 hT2 ⊢
        have HL2 : Hid (q.length ≤ 1000000) := Nat.le_trans hL2 HL.out
        clear hL2 hT
        obtain ⟨m, hm⟩ := HGr.out.max
        go_wp2_with fail
        have hc := countB_le ⟨q.toArray⟩ ⟨#[39, 39]⟩ (by decide)
        have hqs : (⟨q.toArray⟩ : ByteArray).size ≤ 1000000 := by have := HL2.out; simpa [ByteArray.size] using this
        refine (Tryz.strings_ReplaceAll ⟨q.toArray⟩ ⟨#[39, 39]⟩ ⟨#[39]⟩ m _ (by omega) hm (by decide) (by have h1 : (⟨#[39]⟩ : ByteArray).size = 1 := rfl; rw [h1]; omega)).mono ?_
        rintro e w3 ⟨rfl, hb3⟩
        have hT3 : Hid (textV s = ⟨(Lib.replaceAll (⟨q.toArray⟩ : ByteArray).data.toList (⟨#[39, 39]⟩ : ByteArray).data.toList (⟨#[39]⟩ : ByteArray).data.toList).toArray⟩) := hT2.out
        generalize Lib.replaceAll (⟨q.toArray⟩ : ByteArray).data.toList (⟨#[39, 39]⟩ : ByteArray).data.toList (⟨#[39]⟩ : ByteArray).data.toList = r at hT3 ⊢
        clear hm hc hqs hT2 r0 r1 r2 f0 f1 f2
        have W3 := Lib.hid (thn HB.out hb3)
        obtain ⟨⟨r0, r1, r2⟩, f0, f1, f2⟩ := (BR.below hb3 hlt).three
        clear hb3
        go_wp2_with fail
        refine bodyPost_ret (v := .agg #[.int .i64 3, .int .i64 0, .string ⟨r.toArray⟩]) (by simp [results, Tryz.results41, go_sem, r0, r1, r2]) rfl ⟨?_, st3 W3.out (Nat.le_refl _) _ _ _⟩
        rw [HR.out, hT3.out]
      · have HR : Hid (readV s = ⟨1, numV s, ⟨#[]⟩⟩) := (if_neg n1.out.1).trans ((if_neg n1.out.2).trans ((if_neg n3.out.1).trans ((if_neg n3.out.2).trans (if_neg hp))))
        have hp' : Lib.hasPrefix s.data.toList (⟨#[39]⟩ : ByteArray).data.toList = false := by simpa using hp
        rw [hp']
        clear hp hp'
        cases hpi : Lib.parseIntB 64 s.data.toList
        · rename_i v
          have HN : Hid (numV s = v) := by show numV s = v; unfold numV; rw [hpi]
          have HPI := Lib.hid hpi
          clear hpi
          go_wp2_with fail
          refine (Tryz.strconv_ParseInt_10_at64_ok s (by have := HS.out; omega) v HPI.out _).mono ?_
          rintro e w2 ⟨rfl, hw2⟩
          have hb3 : Below wr.heap.size wr w2 := by
            rcases hw2 with hw | ⟨t, hw⟩
            · rw [hw]; exact Below.refl _ _
            · rw [hw]; exact below_bytes _ _ _
          clear hw2 r0 r1 r2 f0 f1 f2
          have W3 := Lib.hid (thn HB.out hb3)
          obtain ⟨⟨r0, r1, r2⟩, f0, f1, f2⟩ := (BR.below hb3 hlt).three
          clear hb3
          go_wp2_with fail
          refine bodyPost_ret (v := .agg #[.int .i64 1, .int .i64 v, .string ⟨#[]⟩]) (by simp [results, Tryz.results41, go_sem, r0, r1, r2]) rfl ⟨?_, st3 W3.out (Nat.le_refl _) _ _ _⟩
          rw [HR.out, HN.out]
        · have HN : Hid (numV s = 0) := by show numV s = 0; unfold numV; rw [hpi]
          have HPI : Hid (Lib.parseIntB 64 s.data.toList = Lib.parseIntB 64 []) := hpi
          clear hpi
          obtain ⟨tp, pp, hvar⟩ := HGr.out.syn
          have HV := Lib.hid hvar
          clear hvar
          go_wp2_with fail
          refine (Tryz.strconv_ParseInt_10_at64_syntax_var s (by have := HS.out; omega) HPI.out tp pp _ HV.out).mono ?_
          rintro e w2 ⟨N, rfl, _, _, hb3⟩
          clear r0 r1 r2 f0 f1 f2
          have W3 := Lib.hid (thn HB.out hb3)
          obtain ⟨⟨r0, r1, r2⟩, f0, f1, f2⟩ := (BR.below hb3 hlt).three
          clear hb3
          go_wp2_with fail
          refine bodyPost_ret (v := .agg #[.int .i64 1, .int .i64 0, .string ⟨#[]⟩]) (by simp [results, Tryz.results41, go_sem, r0, r1, r2]) rfl ⟨?_, st3 W3.out (Nat.le_refl _) _ _ _⟩
          rw [HR.out, HN.out]
        · have HN : Hid (numV s = Lib.intSat 64 s.data.toList) := by show numV s = _; unfold numV; rw [hpi]
          have HPI := Lib.hid hpi
          clear hpi
          obtain ⟨tp, pp, hvar⟩ := HGr.out.rng
          have HV := Lib.hid hvar
          clear hvar
          go_wp2_with fail
          refine (Tryz.strconv_ParseInt_10_at64_range_var s (by have := HS.out; omega) HPI.out tp pp _ HV.out).mono ?_
          rintro e w2 ⟨N, rfl, _, _, hb3⟩
          clear r0 r1 r2 f0 f1 f2
          have W3 := Lib.hid (thn HB.out hb3)
          obtain ⟨⟨r0, r1, r2⟩, f0, f1, f2⟩ := (BR.below hb3 hlt).three
          clear hb3
          generalize Lib.intSat 64 s.data.toList = v at HN ⊢
          go_wp2_with fail
          refine bodyPost_ret (v := .agg #[.int .i64 1, .int .i64 v, .string ⟨#[]⟩]) (by simp [results, Tryz.results41, go_sem, r0, r1, r2]) rfl ⟨?_, st3 W3.out (Nat.le_refl _) _ _ _⟩
          rw [HR.out, HN.out]
end Go.Proofs.YtmhddoikicapjaaGreatDoor
