/-
  THE ITERATOR token.tokens: it hands on the tokens of a string, whatever a round does that leaves the string, the variables and the words alone.
-/
import Derived.Test.YtphgbfgccagcbaaGreatDoorGA10
import Derived.RangeFuncBox
import Derived.RangeFuncLeaves
import Derived.RangeFuncWrites
import Derived.Shelf.Abstract
import Derived.WalkKit
import Derived.OwnWalkIn
import Derived.TacticsInMore
import Derived.LoopNIn
import Derived.LoopIn
namespace Go.Proofs.YtphgbfgccagcbaaGreatDoor
open Go.RowKit Go.Shelf
attribute [local go_sem] Oper.semAt_some

/-- what is handed on: a kind, a text, a place -/
def encT (x : Nat × List UInt8 × Nat) : Array Value := #[.agg #[.int .i64 x.1, .string ⟨x.2.1.toArray⟩, .int .i64 x.2.2]]
theorem encT_of (k : Nat) (t : ByteArray) (a : Nat) : encT (k, t.data.toList, a) = #[.agg #[.int .i64 k, .string t, .int .i64 a]] := by
  unfold encT
  simp only [ba_of]
/-- what the iterator wants of memory -/
structure TokF (s : ByteArray) (bl : Nat) (W : World) : Prop where
  box : W.cell? ⟨bl, 0, none⟩ = some (.string s)
  g : GT W
/-- all have come -/
def SAll (s : ByteArray) (xs : List (Nat × List UInt8 × Nat)) : Prop := tkB 0 s.data.toList = some xs ∨ ((∃ x ∈ xs, x.1 = 0) ∧ tkB 0 s.data.toList = none)
/-- some have come -/
def SPart (s : ByteArray) (pre : List (Nat × List UInt8 × Nat)) : Prop := ∀ x ∈ pre, x.1 = 0 → tkB 0 s.data.toList = none
theorem below_grownT {w w' : World} (hb : Below w.heap.size w w') : w.grownBy w' none := ⟨hb.os, hb.tape, hb.output, hb.size, fun i hi _ => hb.block i hi⟩
theorem sgn_no (l : List UInt8) (h : ∀ j (hj : j < signsB.length), Lib.hasPrefix l (signsB[j]).data.toList = false) : Tok.signOf l Tok.signs = none := by
  refine signOf_none _ (List.any_eq_false.2 fun x hx => ?_)
  rw [← signsB_eq] at hx
  obtain ⟨y, hy, rfl⟩ := List.mem_map.1 hx
  obtain ⟨j, hj, rfl⟩ := List.getElem_of_mem hy
  have := h j hj
  unfold Lib.hasPrefix at this
  exact fun e => by rw [this] at e; cases e
theorem sgn_hit (l : List UInt8) (j : Nat) (hj : j < signsB.length) (h0 : ∀ i (hi : i < signsB.length), i < j → Lib.hasPrefix l (signsB[i]).data.toList = false) (h : Lib.hasPrefix l (signsB[j]).data.toList = true) : Tok.signOf l Tok.signs = some (signsB[j]).data.toList := by
  obtain ⟨h2, he⟩ := signs_at j hj
  rw [← he]
  refine signOf_hit _ j h2 (List.any_eq_false.2 fun x hx => ?_) (by rw [he]; exact h)
  obtain ⟨i, hi, rfl⟩ := List.getElem_of_mem hx
  rw [List.length_take] at hi
  rw [List.getElem_take]
  obtain ⟨h3, he3⟩ := signs_at i (by omega)
  rw [he3]
  have := h0 i (by omega) (by omega)
  unfold Lib.hasPrefix at this
  exact fun e => by rw [this] at e; cases e

set_option maxRecDepth 100000 in
theorem idxSigns (j : Nat) (hj : j < signsB.length) (W : World) : (Instr.index 56 (.agg signVals) (.int .i64 (j : Int))).run Tryz.prog W = .ok (.string (signsB[j]'hj)) W := by
  have h17 : signsB.length = 17 := rfl
  have : j = 0 ∨ j = 1 ∨ j = 2 ∨ j = 3 ∨ j = 4 ∨ j = 5 ∨ j = 6 ∨ j = 7 ∨ j = 8 ∨ j = 9 ∨ j = 10 ∨ j = 11 ∨ j = 12 ∨ j = 13 ∨ j = 14 ∨ j = 15 ∨ j = 16 := by omega
  clear h17
  rcases this with rfl | rfl | rfl | rfl | rfl | rfl | rfl | rfl | rfl | rfl | rfl | rfl | rfl | rfl | rfl | rfl | rfl <;> rfl
set_option maxRecDepth 100000 in
set_option maxHeartbeats 4000000 in
theorem toks1_in (n : Nat) (l bl : Nat) (s : ByteArray) (hs : s.size ≤ 4000)
    (Kp : World → World → Prop) (Fc : World → Prop) (hFR : ∀ W, Fc W → TokF s bl W) (hFK : ∀ W W', Kp W W' → Fc W → Fc W') (hFB : ∀ W W', Below W.heap.size W W' → Fc W → Fc W') (hKW : ∀ W W', Kp W W' → KeepsWalks W W')
    (J Jx : List (Nat × List UInt8 × Nat) → World → Prop) (hJ : ∀ pre W W', J pre W → W.grownBy W' none → J pre W')
    (hY : ∀ pre (x : Nat × List UInt8 × Nat) W, J pre W → pre.length < s.size + 1 → YieldAt Fence.wide (n - 1) Tryz.prog l (encT x) W fun e W' =>
      (e = .returned (.bool true) ∧ J (pre ++ [x]) W' ∧ Kp W W') ∨ (e = .returned (.bool false) ∧ Jx (pre ++ [x]) W'))
    (W : World) (hF : Fc W) (h0 : J [] W) :
    CallsIn Fence.wide n Tryz.prog 29 #[.func (.yield l) #[] #[], .pointer (some ⟨bl, 0, none⟩)] W fun e W' => (∃ v, e = .returned v) ∧
      ((∃ xs, SAll s xs ∧ J xs W') ∨ (∃ pre, SPart s pre ∧ Jx pre W')) := by
  have HF := Lib.hid (And.intro hF h0)
  have hlen : s.data.toList.length = s.size := Array.length_toList
  have HLen := Lib.hid hlen
  clear hF h0 hlen
  refine callsIn_of_wp Tryz.func29 rfl trivial ?_ rfl
  simp only [Tryz.ntmps29, List.size_toArray, List.length_cons, List.length_nil, Nat.reduceAdd, Nat.reduceSub, Array.replicate_succ, Array.replicate_zero, List.push_toArray, List.append_toArray, List.nil_append, List.cons_append]
  refine wpIn_scope ?_
  gi_wp2
  refine ⟨trivial, (fun h => by simp [Fence.wide] at h), (callsIn_wide.2 (words_any W (hFR _ HF.out.1).g)).mono ?_⟩
  rintro e w1 ⟨bm, rfl, hbm, hwm, hb1⟩
  have HI0 := Lib.hid (And.intro (hJ [] W w1 HF.out.2 (below_grownT hb1)) (And.intro (hFB _ _ hb1 HF.out.1) hwm))
  clear hbm hwm hb1 HF
  gi_wp2
  refine wpIn_label ?_
  gi_wp2
  gi_loopw [4] (fun av wr => ∃ (k : Nat) (pre : List (Nat × List UInt8 × Nat)), av = .int .i64 k ∧ k ≤ s.size ∧ pre.length ≤ k ∧ Hid (J pre wr ∧ Fc wr ∧ WMap wr bm 41 wordsB) ∧ Hid ((∀ x ∈ pre, x.1 ≠ 0) ∧ tkB 0 s.data.toList = (tkB k (s.data.toList.drop k)).map (pre ++ ·))) (fun av _ => s.size - (intOf av).toNat)
  case atStart => exact ⟨0, [], rfl, Nat.zero_le _, Nat.zero_le _, HI0, Lib.hid ⟨fun x hx => (by cases hx), by rw [List.drop_zero]; cases tkB 0 s.data.toList <;> simp⟩⟩
  case round =>
    obtain ⟨k, pre, rfl, hk, hpk, HI, HT⟩ := hrel
    clear HI0
    have hbox := (hFR _ HI.out.2.1).box
    by_cases hlt : k < s.size
    · have hlti : (k : Int) < (s.size : Int) := by omega
      have hki : (k : Int) ≤ (s.size : Int) := by omega
      have HD := Lib.hid (dropc s k hlt)
      by_cases h32 : (s[k].toNat : Int) = 32
      · have e32 : ((s[k].toNat : Int) == 32) = true := by simp [h32]
        have HN : Hid ((∀ x ∈ pre, x.1 ≠ 0) ∧ tkB 0 s.data.toList = (tkB (k + 1) (s.data.toList.drop (k + 1))).map (pre ++ ·)) := Lib.hid ⟨HT.out.1, by
          rw [HT.out.2, HD.out]
          unfold tkB
          rw [Tok.tkz_blank k _ (.inl (UInt8.toNat_inj.1 (show s[k].toNat = 32 by omega)))]⟩
        clear h32 HT HD
        gi_wp2
        go_roundw
        case rel => exact ⟨k + 1, pre, by go_num, by omega, by omega, HI, HN⟩
        case measure => simp [intOf]; omega
      · have e32 : ((s[k].toNat : Int) == 32) = false := beq_eq_false_iff_ne.2 h32
        by_cases h10 : (s[k].toNat : Int) = 10
        · have e10 : ((s[k].toNat : Int) == 10) = true := by simp [h10]
          have HN : Hid ((∀ x ∈ pre, x.1 ≠ 0) ∧ tkB 0 s.data.toList = (tkB (k + 1) (s.data.toList.drop (k + 1))).map (pre ++ ·)) := Lib.hid ⟨HT.out.1, by
            rw [HT.out.2, HD.out]
            unfold tkB
            rw [Tok.tkz_blank k _ (.inr (UInt8.toNat_inj.1 (show s[k].toNat = 10 by omega)))]⟩
          clear h32 h10 HT HD
          gi_wp2
          go_roundw
          case rel => exact ⟨k + 1, pre, by go_num, by omega, by omega, HI, HN⟩
          case measure => simp [intOf]; omega
        · have e10 : ((s[k].toNat : Int) == 10) = false := beq_eq_false_iff_ne.2 h10
          have HNb : Hid (¬ (s[k] = 32 ∨ s[k] = 10)) := Lib.hid (by
            rintro (e | e)
            · exact h32 (by rw [e]; rfl)
            · exact h10 (by rw [e]; rfl))
          clear h32 h10
          have hsg := (hFR _ HI.out.2.1).g.cells
          have c0 := hsg 0 (by decide)
          have c1 := hsg 1 (by decide)
          have c2 := hsg 2 (by decide)
          have c3 := hsg 3 (by decide)
          have c4 := hsg 4 (by decide)
          have c5 := hsg 5 (by decide)
          have c6 := hsg 6 (by decide)
          have c7 := hsg 7 (by decide)
          have c8 := hsg 8 (by decide)
          have c9 := hsg 9 (by decide)
          have c10 := hsg 10 (by decide)
          have c11 := hsg 11 (by decide)
          have c12 := hsg 12 (by decide)
          have c13 := hsg 13 (by decide)
          have c14 := hsg 14 (by decide)
          have c15 := hsg 15 (by decide)
          have c16 := hsg 16 (by decide)
          clear hsg
          simp only [signsB, List.getElem_cons_succ, List.getElem_cons_zero] at c0 c1 c2 c3 c4 c5 c6 c7 c8 c9 c10 c11 c12 c13 c14 c15 c16
          gi_wp2
          clear c0 c1 c2 c3 c4 c5 c6 c7 c8 c9 c10 c11 c12 c13 c14 c15 c16
          gi_loopw [4, 27] (fun av iv wr' => ∃ j : Nat, j ≤ 17 ∧ av = .int .i64 k ∧ iv = .int .i64 j ∧ wr' = wr ∧ Hid (∀ i (hi : i < signsB.length), i < j → Lib.hasPrefix (s.data.toList.drop k) (signsB[i]).data.toList = false)) (fun _ iv _ => 17 - (intOf iv).toNat)
          case atStart => exact ⟨0, Nat.zero_le _, rfl, rfl, rfl, Lib.hid (fun i _ h => absurd h (Nat.not_lt_zero _))⟩
          case round =>
            obtain ⟨j, hj, rfl, rfl, rfl, HJ⟩ := hrel
            by_cases hj17 : j < 17
            · have hj17i : (j : Int) < 17 := by omega
              have hjb : j < signsB.length := hj17
              have hix := idxSigns j hjb
              unfold signVals at hix
              have hsz := signsB_size _ (List.getElem_mem hjb)
              have HHit := Lib.hid (fun h => sgn_hit (s.data.toList.drop k) j hjb HJ.out h)
              have HMiss : Hid (Lib.hasPrefix (s.data.toList.drop k) (signsB[j]).data.toList = false → ∀ i (hi : i < signsB.length), i < j + 1 → Lib.hasPrefix (s.data.toList.drop k) (signsB[i]).data.toList = false) := Lib.hid (fun h i hi hij => by
                by_cases e : i = j
                · subst e; exact h
                · exact HJ.out i hi (by omega))
              generalize signsB[j] = sg at *
              gi_wp2
              clear hix
              have hhp := hasPrefixL (s.extract k s.size) sg wr
              rw [extD] at hhp
              refine ⟨trivial, (fun h => by simp [Fence.wide] at h), (callsIn_wide.2 hhp).mono ?_⟩
              clear hhp
              cases hp : Lib.hasPrefix (s.data.toList.drop k) sg.data.toList with
              | true =>
                have hone := one_signed (HHit.out hp)
                have hat := Tok.one_at hone
                have ht0 : 0 < sg.size := by
                  have h1 := List.length_pos_iff.2 hat.1
                  rw [Array.length_toList] at h1
                  exact h1
                have htl : k + sg.size ≤ s.size := by
                  obtain ⟨-, -, -, h1, -⟩ := hat
                  rw [List.length_drop, HLen.out, Array.length_toList] at h1
                  have h2 : sg.data.size = sg.size := rfl
                  omega
                have HTx : Hid ((∀ x ∈ pre ++ [(5, sg.data.toList, k)], x.1 ≠ 0) ∧ tkB 0 s.data.toList = (tkB (k + sg.size) (s.data.toList.drop (k + sg.size))).map ((pre ++ [(5, sg.data.toList, k)]) ++ ·)) := Lib.hid ⟨fun x hx => by
                  rcases List.mem_append.1 hx with h | h
                  · exact HT.out.1 x h
                  · rw [List.mem_singleton.1 h]; exact (by decide : (5 : Nat) ≠ 0), by
                  rw [HT.out.2, HD.out]
                  unfold tkB
                  have hl : sg.data.toList.length = sg.size := Array.length_toList
                  rw [Tok.tkz_some k _ HNb.out (by rw [← HD.out]; exact hone), map_cons_app, ← HD.out, List.drop_drop, hl]⟩
                clear hp HHit HMiss hone hat HJ
                obtain ⟨fn, tmps, assign, body, hy, hR⟩ := hY pre (5, sg.data.toList, k) wr HI.out.1 (by omega)
                rw [encT_of, show ((5 : Nat) : Int) = 5 from rfl] at hy
                have HRR := Lib.hid hR
                have hpl : (pre ++ [(5, sg.data.toList, k)]).length ≤ k + sg.size := by rw [List.length_append]; simp; omega
                clear hR
                generalize pre ++ [(5, sg.data.toList, k)] = pre2 at *
                rintro e w' ⟨rfl, rfl⟩
                gi_wp2
                refine ⟨fun h => by simp [Fence.wide] at h, HRR.out.mono ?_⟩
                rintro e W3 (⟨rfl, hJ3, hk3⟩ | ⟨rfl, hJx3⟩)
                · have HI3 : Hid (J pre2 W3 ∧ Fc W3 ∧ WMap W3 bm 41 wordsB) := Lib.hid ⟨hJ3, hFK _ _ hk3 HI.out.2.1, HI.out.2.2.same (by
                    obtain ⟨o, ho, hw⟩ := HI.out.2.2.isMap
                    rw [(hKW _ _ hk3).same _ _ ho hw, ho])⟩
                  clear hJ3 hk3 HRR hy hbox HI HT HD HNb
                  gi_wp2
                  go_roundw
                  case rel => exact ⟨k + sg.size, pre2, by go_num, by omega, hpl, HI3, HTx⟩
                  case measure => simp [intOf]; omega
                · clear HRR hy hbox
                  gi_wp2
                  dsimp only [Exit.noGoto]
                  refine bodyPost_ret (results_none rfl _ _ _) rfl ?_
                  exact ⟨⟨_, rfl⟩, .inr ⟨_, fun x hx h0 => absurd h0 (HTx.out.1 x hx), hJx3⟩⟩
              | false =>
                have HM2 := Lib.hid (HMiss.out hp)
                clear hp HHit HMiss HJ
                rintro e w' ⟨rfl, rfl⟩
                gi_wp2
                go_roundw
                case rel => exact ⟨j + 1, by omega, by first | rfl | trivial, by go_num, by first | rfl | trivial, HM2⟩
                case measure => simp [intOf]; omega
            · have hjn : j = 17 := by omega
              subst hjn
              have HSg : Hid (Tok.signOf (s.data.toList.drop k) Tok.signs = none) := Lib.hid (sgn_no _ fun j hj => HJ.out j hj hj)
              clear HJ
              have hps : (s.extract k s.size).size ≤ 20000 := by rw [ByteArray.size_extract]; omega
              have hp0 : 0 < (s.extract k s.size).size := by rw [ByteArray.size_extract]; omega
              have HFst := Lib.hid (first_any (s.extract k s.size) bm 41 wr (hFR _ HI.out.2.1).g hps hp0 HI.out.2.2 (by rw [extD]; exact HSg.out))
              clear hps hp0
              gi_wp2
              refine ⟨trivial, (fun h => by simp [Fence.wide] at h), (callsIn_wide.2 HFst.out).mono ?_⟩
              rintro e w2 ⟨kk, t, rfl, hft, hb2⟩
              have HI2 : Hid (J pre w2 ∧ Fc w2 ∧ WMap w2 bm 41 wordsB) := Lib.hid ⟨hJ pre wr w2 HI.out.1 (below_grownT hb2), hFB _ _ hb2 HI.out.2.1, HI.out.2.2.below hb2⟩
              unfold FstT at hft
              rw [extD] at hft
              clear hb2 HFst HSg HI hbox
              obtain ⟨fn, tmps, assign, body, hy, hR⟩ := hY pre (kk, t.data.toList, k) w2 HI2.out.1 (by omega)
              rw [encT_of] at hy
              have HRR := Lib.hid hR
              clear hR
              rcases hft with ⟨rfl, hno⟩ | ⟨hk0, hone⟩
              · have HN : Hid (tkB 0 s.data.toList = none) := Lib.hid (by
                  rw [HT.out.2, HD.out]
                  unfold tkB
                  rw [Tok.tkz_none k _ HNb.out (by rw [← HD.out]; exact hno)]; rfl)
                rw [show ((0 : Nat) : Int) = 0 from rfl] at hy
                clear hno HT HD HNb
                gi_wp2
                refine ⟨fun h => by simp [Fence.wide] at h, HRR.out.mono ?_⟩
                rintro e W3 (⟨rfl, hJ3, hk3⟩ | ⟨rfl, hJx3⟩)
                · clear HRR hy
                  gi_wp2
                  dsimp only [Exit.noGoto]
                  refine bodyPost_ret (results_none rfl _ _ _) rfl ?_
                  exact ⟨⟨_, rfl⟩, .inl ⟨_, .inr ⟨⟨_, List.mem_append_right _ (List.mem_singleton.2 rfl), rfl⟩, HN.out⟩, hJ3⟩⟩
                · clear HRR hy
                  gi_wp2
                  dsimp only [Exit.noGoto]
                  refine bodyPost_ret (results_none rfl _ _ _) rfl ?_
                  exact ⟨⟨_, rfl⟩, .inr ⟨_, fun x hx h0 => HN.out, hJx3⟩⟩
              · have hat := Tok.one_at hone
                have ht0 : 0 < t.size := by
                  have h1 := List.length_pos_iff.2 hat.1
                  rw [Array.length_toList] at h1
                  exact h1
                have htl : k + t.size ≤ s.size := by
                  obtain ⟨-, -, -, h1, -⟩ := hat
                  rw [List.length_drop, HLen.out, Array.length_toList] at h1
                  have h2 : t.data.size = t.size := rfl
                  omega
                have HTx : Hid ((∀ x ∈ pre ++ [(kk, t.data.toList, k)], x.1 ≠ 0) ∧ tkB 0 s.data.toList = (tkB (k + t.size) (s.data.toList.drop (k + t.size))).map ((pre ++ [(kk, t.data.toList, k)]) ++ ·)) := Lib.hid ⟨fun x hx => by
                  rcases List.mem_append.1 hx with h | h
                  · exact HT.out.1 x h
                  · rw [List.mem_singleton.1 h]; exact hk0, by
                  rw [HT.out.2, HD.out]
                  unfold tkB
                  have hl : t.data.toList.length = t.size := Array.length_toList
                  rw [Tok.tkz_some k _ HNb.out (by rw [← HD.out]; exact hone), map_cons_app, ← HD.out, List.drop_drop, hl]⟩
                have hke : ((kk : Int) == 0) = false := beq_eq_false_iff_ne.2 (by omega)
                have hpl : (pre ++ [(kk, t.data.toList, k)]).length ≤ k + t.size := by rw [List.length_append]; simp; omega
                clear hone hat hk0
                generalize pre ++ [(kk, t.data.toList, k)] = pre2 at *
                gi_wp2
                refine ⟨fun h => by simp [Fence.wide] at h, HRR.out.mono ?_⟩
                rintro e W3 (⟨rfl, hJ3, hk3⟩ | ⟨rfl, hJx3⟩)
                · have HI3 : Hid (J pre2 W3 ∧ Fc W3 ∧ WMap W3 bm 41 wordsB) := Lib.hid ⟨hJ3, hFK _ _ hk3 HI2.out.2.1, HI2.out.2.2.same (by
                    obtain ⟨o, ho, hw⟩ := HI2.out.2.2.isMap
                    rw [(hKW _ _ hk3).same _ _ ho hw, ho])⟩
                  clear hJ3 hk3 HRR hy HI2 HT HD HNb
                  gi_wp2
                  go_roundw
                  case rel => exact ⟨k + t.size, pre2, by go_num, by omega, hpl, HI3, HTx⟩
                  case measure => simp [intOf]; omega
                · clear HRR hy
                  gi_wp2
                  dsimp only [Exit.noGoto]
                  refine bodyPost_ret (results_none rfl _ _ _) rfl ?_
                  exact ⟨⟨_, rfl⟩, .inr ⟨_, fun x hx h0 => absurd h0 (HTx.out.1 x hx), hJx3⟩⟩
    · have hlf : decide ((k : Int) < (s.size : Int)) = false := decide_eq_false (by omega)
      have HN : Hid (tkB 0 s.data.toList = some pre) := Lib.hid (by
        rw [HT.out.2, List.drop_eq_nil_of_le (by rw [HLen.out]; omega)]
        unfold tkB
        rw [Tok.tkz_nil]; simp)
      gi_wp2
      dsimp only [Exit.noGoto]
      go_end0
      exact ⟨⟨_, rfl⟩, .inl ⟨pre, .inl HN.out, HI.out.1⟩⟩
end Go.Proofs.YtphgbfgccagcbaaGreatDoor
