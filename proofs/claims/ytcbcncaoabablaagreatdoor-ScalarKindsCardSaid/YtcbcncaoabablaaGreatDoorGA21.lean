/-
  AwM: CONTRACTS: the reference's Of, Col, Lit, the law's three; what the program says of the expressions that the law's awake holds.
  AwE: CONTRACT of the law's awake.
  LSm: THE WALK of ScalarSames.
-/
import Derived.Test.YtcbcncaoabablaaGreatDoorGA18
import Derived.Test.YtcbcncaoabablaaGreatDoorGA20
import Derived.Test.YtcbcncaoabablaaGreatDoorGA10
import Derived.Test.YtcbcncaoabablaaGreatDoorGA01
import Derived.Test.YtcbcncaoabablaaGreatDoorGA03
namespace Go.Proofs.YtcbcncaoabablaaGreatDoor
open Go.RowKit Go.Deep

abbrev zz : V := ⟨0, 0, ⟨#[]⟩⟩
abbrev eC (n : Int) : E := .mk 1 n 0 0 zz [] []
abbrev eL (v : V) : E := .mk 3 0 0 v.k v [] []
abbrev eO (op : Int) (l : List E) : E := .mk op 0 0 0 zz l []
theorem RCol_any (n : Int) (w : World) : Calls Tryz.prog 40 #[.int .i64 n] w fun x w' => x = .returned (.agg #[.int .i64 1, .int .i64 n, .int .i64 0, .int .i64 0, .int .i64 0, .int .i64 0, .string ⟨#[]⟩, .slice none 0 0, .slice none 0 0]) ∧ Below w.heap.size w w' := by
  go_enter Tryz.func40, Tryz.ntmps40
  go_wp2_with fail
  exact bodyPost_ret (v := .agg #[.int .i64 1, .int .i64 n, .int .i64 0, .int .i64 0, .int .i64 0, .int .i64 0, .string ⟨#[]⟩, .slice none 0 0, .slice none 0 0]) (by simp [results, Tryz.results40, go_sem]) rfl ⟨rfl, al (Below.refl _ _) _⟩
theorem RLit_any (v : V) (w : World) : Calls Tryz.prog 41 #[.agg #[.int .i64 v.k, .int .i64 v.n, .string v.s]] w fun x w' => x = .returned (.agg #[.int .i64 3, .int .i64 0, .int .i64 0, .int .i64 v.k, .int .i64 v.k, .int .i64 v.n, .string v.s, .slice none 0 0, .slice none 0 0]) ∧ Below w.heap.size w w' := by
  go_enter Tryz.func41, Tryz.ntmps41
  go_wp2_with fail
  exact bodyPost_ret (v := .agg #[.int .i64 3, .int .i64 0, .int .i64 0, .int .i64 v.k, .int .i64 v.k, .int .i64 v.n, .string v.s, .slice none 0 0, .slice none 0 0]) (by simp [results, Tryz.results41, go_sem]) rfl ⟨rfl, al (al (Below.refl _ _) _) _⟩
theorem ROf_any (op : Int) (A : Option Addr) (n c : Nat) (w : World) : Calls Tryz.prog 39 #[.int .i64 op, .slice A n c] w fun x w' => x = .returned (.agg #[.int .i64 op, .int .i64 0, .int .i64 0, .int .i64 0, .int .i64 0, .int .i64 0, .string ⟨#[]⟩, .slice A n c, .slice none 0 0]) ∧ Below w.heap.size w w' := by
  go_enter Tryz.func39, Tryz.ntmps39
  go_wp2_with fail
  exact bodyPost_ret (v := .agg #[.int .i64 op, .int .i64 0, .int .i64 0, .int .i64 0, .int .i64 0, .int .i64 0, .string ⟨#[]⟩, .slice A n c, .slice none 0 0]) (by simp [results, Tryz.results39, go_sem]) rfl ⟨rfl, al (Below.refl _ _) _⟩
abbrev threeC : List Co := [(1, false), (1, true), (3, true)]
theorem three_any (w : World) : Calls Tryz.prog 44 #[] w fun x w' => x = .returned (.slice (some ⟨w.heap.size, 0, none⟩) 3 3) ∧ w' = w.alloc (.cells #[.int .i64 1, .bool false, .int .i64 1, .bool true, .int .i64 3, .bool true] 50) := by
  go_enter Tryz.func44, Tryz.ntmps44
  go_wp2_with fail
  go_ret
  exact ⟨rfl, rfl⟩
theorem three_reads {w : World} {g : Nat} {T : TypeId} (h : Blk w g T #[.int .i64 1, .bool false, .int .i64 1, .bool true, .int .i64 3, .bool true]) : KReads w w.heap.size (some ⟨g, 0, none⟩) threeC := fun _ =>
  ⟨g, 0, rfl, h.lt, fun i k hi => by
    match i, hi with
    | 0, hi => cases hi; exact ⟨h.cell 0, h.cell 1⟩
    | 1, hi => cases hi; exact ⟨h.cell 2, h.cell 3⟩
    | 2, hi => cases hi; exact ⟨h.cell 4, h.cell 5⟩⟩
abbrev rowA : List V := [⟨1, 5, ⟨#[]⟩⟩, zz, zz]
theorem row_reads {w : World} {g : Nat} {T : TypeId} (h : Blk w g T #[.int .i64 1, .int .i64 5, .string ⟨#[]⟩, .int .i64 0, .int .i64 0, .string ⟨#[]⟩, .int .i64 0, .int .i64 0, .string ⟨#[]⟩]) : VReads w w.heap.size (some ⟨g, 0, none⟩) rowA := fun _ =>
  ⟨g, 0, rfl, h.lt, fun i k hi => by
    match i, hi with
    | 0, hi => cases hi; exact ⟨h.cell 0, h.cell 1, h.cell 2⟩
    | 1, hi => cases hi; exact ⟨h.cell 3, h.cell 4, h.cell 5⟩
    | 2, hi => cases hi; exact ⟨h.cell 6, h.cell 7, h.cell 8⟩⟩
abbrev aw1 : E := eO 16 [eC 0, eL ⟨1, 3, ⟨#[]⟩⟩]
abbrev aw2 : E := eO 22 [eC 1]
abbrev aw3 : E := eO 21 [aw2]
abbrev awE : E := eO 19 [aw1, aw3]
abbrev awD : E := eO 7 [eL ⟨1, 7, ⟨#[]⟩⟩, eC 0]
abbrev awB : E := eO 4 [eC 0, eC 2]
theorem itoa_small (n : Nat) (h : n < 10) : Lib.itoa n = [UInt8.ofNat (48 + n)] := by
  unfold Lib.itoa
  rw [if_neg (by omega)]
  exact Lib.decDigits_one h
abbrev awText : List UInt8 := [97, 110, 100, 40, 103, 116, 40, 36, 48, 44, 32, 51, 41, 44, 32, 110, 111, 116, 40, 105, 115, 110, 117, 108, 108, 40, 36, 49, 41, 41, 41]
theorem awE_str : strE awE = awText := by
  have i0 : Lib.itoa 0 = [48] := itoa_small 0 (by decide)
  have i1 : Lib.itoa 1 = [49] := itoa_small 1 (by decide)
  have i3 : Lib.itoa 3 = [51] := itoa_small 3 (by decide)
  simp [strE, strL, leafB, joinS, wordL, wordsT, strB, i0, i1, i3]
theorem awE_form : formE awE = true := by decide +kernel
theorem awD_form : formE awD = true := by decide +kernel
theorem awB_form : formE awB = true := by decide +kernel
theorem awE_same : (formE awE && formE awE && sameF awE awE) = true := by decide +kernel
theorem awE_cks : cksE [awE, awE] = 0 := by decide +kernel
theorem awE_evl : evlV threeC rowA awE = ⟨2, 0, ⟨#[]⟩⟩ := by decide +kernel
theorem awE_evf : evlF threeC rowA awE = 0 := by decide +kernel
theorem awD_knr : kndR threeC awD = some (1, true) := by decide +kernel
theorem awD_knf : kndF threeC awD = 0 := by decide +kernel
theorem awB_knf : kndF threeC awB = 31 := by decide +kernel
end Go.Proofs.YtcbcncaoabablaaGreatDoor
namespace Go.Proofs.YtcbcncaoabablaaGreatDoor
open Go.RowKit Go.Deep

theorem awE_ehas {w : World} {A : Option Addr} (h : LOk w (Lo w.heap.size) A [aw1, aw3]) : EHas w awE A none :=
  ⟨by decide, by simp [fitX, fitXL, maxLen, ByteArray.size], h, fun h0 => absurd h0 (Nat.lt_irrefl 0)⟩
theorem awD_ehas {w : World} {A : Option Addr} (h : LOk w (Lo w.heap.size) A [eL ⟨1, 7, ⟨#[]⟩⟩, eC 0]) : EHas w awD A none :=
  ⟨by decide, by simp [fitX, fitXL, maxLen, ByteArray.size], h, fun h0 => absurd h0 (Nat.lt_irrefl 0)⟩
theorem awB_ehas {w : World} {A : Option Addr} (h : LOk w (Lo w.heap.size) A [eC 0, eC 2]) : EHas w awB A none :=
  ⟨by decide, by simp [fitX, fitXL, maxLen, ByteArray.size], h, fun h0 => absurd h0 (Nat.lt_irrefl 0)⟩
theorem awE_in : EIn awE := by simp [EIn, LIn, I64, maxLen, ByteArray.size]
theorem aw_String (A : Option Addr) (w : World) (hG : GE w) (hS : GS w) (h : LOk w (Lo w.heap.size) A [aw1, aw3]) :
    Calls Tryz.prog 10 #[.agg #[.int .i64 19, .int .i64 0, .int .i64 0, .int .i64 0, .int .i64 0, .int .i64 0, .string ⟨#[]⟩, .slice A 2 2, .slice none 0 0]] w fun x w' => x = .returned (.tuple #[.string ⟨#[97, 110, 100, 40, 103, 116, 40, 36, 48, 44, 32, 51, 41, 44, 32, 110, 111, 116, 40, 105, 115, 110, 117, 108, 108, 40, 36, 49, 41, 41, 41]⟩, .int .i64 0]) ∧ Below w.heap.size w w' := by
  have k := StringP_any awE A none 2 0 w ⟨hG.g, hS⟩ (awE_ehas h) awE_in
  have e1 : strS awE = ⟨#[97, 110, 100, 40, 103, 116, 40, 36, 48, 44, 32, 51, 41, 44, 32, 110, 111, 116, 40, 105, 115, 110, 117, 108, 108, 40, 36, 49, 41, 41, 41]⟩ := by unfold strS; rw [if_pos ⟨awE_form, by rw [awE_str]; decide⟩, awE_str]
  have e2 : strF awE = 0 := by unfold strF; rw [if_pos awE_form, if_pos (by rw [awE_str]; decide)]
  rw [e1, e2] at k
  exact k
theorem aw_Parse (w : World) (hG : GE w) (hS : GS w) :
    Calls Tryz.prog 43 #[.string ⟨#[97, 110, 100, 40, 103, 116, 40, 36, 48, 44, 32, 51, 41, 44, 32, 110, 111, 116, 40, 105, 115, 110, 117, 108, 108, 40, 36, 49, 41, 41, 41]⟩] w fun x w' => ∃ (A R : Option Addr) (c d : Nat), x = .returned (.tuple #[.agg #[.int .i64 19, .int .i64 0, .int .i64 0, .int .i64 0, .int .i64 0, .int .i64 0, .string ⟨#[]⟩, .slice A 2 c, .slice R 0 d], .int .i64 0]) ∧ Below w.heap.size w w' ∧ LOk w' (Lo w'.heap.size) A [aw1, aw3] := by
  have k := ParseE_yes awE w hG hS awE_in awE_form (by rw [awE_str]; decide)
  have e1 : (⟨(strE awE).toArray⟩ : ByteArray) = ⟨#[97, 110, 100, 40, 103, 116, 40, 36, 48, 44, 32, 51, 41, 44, 32, 110, 111, 116, 40, 105, 115, 110, 117, 108, 108, 40, 36, 49, 41, 41, 41]⟩ := by rw [awE_str]
  rw [e1] at k
  refine k.mono ?_
  rintro x w' ⟨⟨e, A, c, R, d⟩, he, rfl, hb, hok⟩
  change e = awE at he
  subst he
  exact ⟨A, R, c, d, rfl, hb, hok.1.kept (fun _ _ => rfl) fun b hb => hb.2⟩
theorem aw_Same (A A' R' : Option Addr) (c d : Nat) (w : World) (hS : GS w) (h : LOk w (Lo w.heap.size) A [aw1, aw3]) (h' : LOk w (Lo w.heap.size) A' [aw1, aw3]) :
    Calls Tryz.prog 27 #[.agg #[.int .i64 19, .int .i64 0, .int .i64 0, .int .i64 0, .int .i64 0, .int .i64 0, .string ⟨#[]⟩, .slice A 2 2, .slice none 0 0], .agg #[.int .i64 19, .int .i64 0, .int .i64 0, .int .i64 0, .int .i64 0, .int .i64 0, .string ⟨#[]⟩, .slice A' 2 c, .slice R' 0 d]] w fun x w' => x = .returned (.tuple #[.bool true, .int .i64 0]) ∧ Below w.heap.size w w' := by
  have k := SameP_any awE awE A none A' R' 2 0 c d w hS (awE_ehas h) ⟨(awE_ehas h').n, (awE_ehas h').f, (awE_ehas h').a, fun h0 => absurd h0 (Nat.lt_irrefl 0)⟩
  rw [awE_same, awE_cks] at k
  exact k
theorem aw_Eval (A : Option Addr) (gc gr : Nat) (w : World) (hS : GS w) (h : LOk w (Lo w.heap.size) A [aw1, aw3]) (hc : KReads w w.heap.size (some ⟨gc, 0, none⟩) threeC) (hr : VReads w w.heap.size (some ⟨gr, 0, none⟩) rowA) :
    Calls Tryz.prog 24 #[.agg #[.int .i64 19, .int .i64 0, .int .i64 0, .int .i64 0, .int .i64 0, .int .i64 0, .string ⟨#[]⟩, .slice A 2 2, .slice none 0 0], .slice (some ⟨gc, 0, none⟩) 3 3, .slice (some ⟨gr, 0, none⟩) 3 3] w fun x w' => x = .returned (.tuple #[.agg #[.int .i64 2, .int .i64 0, .string ⟨#[]⟩], .int .i64 0]) ∧ Below w.heap.size w w' := by
  have k := EvalP_any awE A none 2 0 threeC (some ⟨gc, 0, none⟩) 3 rowA (some ⟨gr, 0, none⟩) 3 w hS (awE_ehas h) hc (by decide) hr (fun ad e => by injection e with e; exact ⟨_, _, e.symm⟩) (by decide) (fun v hv => by
    have : v = ⟨1, 5, ⟨#[]⟩⟩ ∨ v = zz := by simpa using hv
    rcases this with rfl | rfl <;> simp [maxLen, ByteArray.size])
  rw [awE_evl, awE_evf] at k
  exact k
theorem aw_KindD (A : Option Addr) (gc : Nat) (w : World) (hS : GS w) (h : LOk w (Lo w.heap.size) A [eL ⟨1, 7, ⟨#[]⟩⟩, eC 0]) (hc : KReads w w.heap.size (some ⟨gc, 0, none⟩) threeC) :
    Calls Tryz.prog 20 #[.agg #[.int .i64 7, .int .i64 0, .int .i64 0, .int .i64 0, .int .i64 0, .int .i64 0, .string ⟨#[]⟩, .slice A 2 2, .slice none 0 0], .slice (some ⟨gc, 0, none⟩) 3 3] w fun x w' => x = .returned (.tuple #[.agg #[.int .i64 1, .bool true], .int .i64 0]) ∧ Below w.heap.size w w' := by
  have k := KindP_any awD A none 2 0 threeC (some ⟨gc, 0, none⟩) 3 w hS (awD_ehas h) hc (by decide)
  rw [awD_knr, awD_knf] at k
  exact k
theorem aw_KindB (A : Option Addr) (gc : Nat) (w : World) (hS : GS w) (h : LOk w (Lo w.heap.size) A [eC 0, eC 2]) (hc : KReads w w.heap.size (some ⟨gc, 0, none⟩) threeC) :
    Calls Tryz.prog 20 #[.agg #[.int .i64 4, .int .i64 0, .int .i64 0, .int .i64 0, .int .i64 0, .int .i64 0, .string ⟨#[]⟩, .slice A 2 2, .slice none 0 0], .slice (some ⟨gc, 0, none⟩) 3 3] w fun x w' => x = .returned (.tuple #[.agg #[.int .i64 0, .bool false], .int .i64 31]) ∧ Below w.heap.size w w' := by
  have k := KindP_any awB A none 2 0 threeC (some ⟨gc, 0, none⟩) 3 w hS (awB_ehas h) hc (by decide)
  have e : kndR threeC awB = none := by decide +kernel
  rw [e, awB_knf] at k
  exact k

set_option maxHeartbeats 8000000 in
set_option maxRecDepth 100000 in
theorem awakeE_any (w : World) (hG : GE w) (hS : GS w) :
    Calls Tryz.prog 13 #[] w fun e w' => e = .returned (.bool true) ∧ Below w.heap.size w w' := by
  have HG := Lib.hid (And.intro hG hS)
  have HB : Hid (Below w.heap.size w w) := Lib.hid (Below.refl _ _)
  clear hG hS
  go_enter Tryz.func13, Tryz.ntmps13
  go_wp2_with fail
  refine (RCol_any 0 _).mono ?_
  rintro x w1 ⟨rfl, hb⟩
  replace HG := Lib.hid (And.intro (HG.out.1.thn hb) (HG.out.2.thn hb))
  replace HB := Lib.hid (thn HB.out hb)
  clear hb
  go_wp2_with fail
  refine (rInt_any 3 _).mono ?_
  rintro x w2 ⟨rfl, hb⟩
  replace HG := Lib.hid (And.intro (HG.out.1.thn hb) (HG.out.2.thn hb))
  replace HB := Lib.hid (thn HB.out hb)
  clear hb
  go_wp2_with fail
  refine (RLit_any ⟨1, 3, ⟨#[]⟩⟩ _).mono ?_
  rintro x w3 ⟨rfl, hb⟩
  replace HG := Lib.hid (And.intro (HG.out.1.thn hb) (HG.out.2.thn hb))
  replace HB := Lib.hid (thn HB.out hb)
  clear hb
  go_wp2_with fail
  have hb := al (Below.refl w3.heap.size w3) (.cells #[.int .i64 1, .int .i64 0, .int .i64 0, .int .i64 0, .int .i64 0, .int .i64 0, .string ⟨#[]⟩, .slice none 0 0, .slice none 0 0, .int .i64 3, .int .i64 0, .int .i64 0, .int .i64 1, .int .i64 1, .int .i64 3, .string ⟨#[]⟩, .slice none 0 0, .slice none 0 0] 29)
  replace HG := Lib.hid (And.intro (HG.out.1.thn hb) (HG.out.2.thn hb))
  replace HB := Lib.hid (thn HB.out hb)
  clear hb
  have L1 := Lib.hid (show LOk (w3.alloc (.cells #[.int .i64 1, .int .i64 0, .int .i64 0, .int .i64 0, .int .i64 0, .int .i64 0, .string ⟨#[]⟩, .slice none 0 0, .slice none 0 0, .int .i64 3, .int .i64 0, .int .i64 0, .int .i64 1, .int .i64 1, .int .i64 3, .string ⟨#[]⟩, .slice none 0 0, .slice none 0 0] 29)) (Lo (w3.alloc (.cells #[.int .i64 1, .int .i64 0, .int .i64 0, .int .i64 0, .int .i64 0, .int .i64 0, .string ⟨#[]⟩, .slice none 0 0, .slice none 0 0, .int .i64 3, .int .i64 0, .int .i64 0, .int .i64 1, .int .i64 1, .int .i64 3, .string ⟨#[]⟩, .slice none 0 0, .slice none 0 0] 29)).heap.size) (some ⟨w3.heap.size, 0, none⟩) [(eC 0), (eL ⟨1, 3, ⟨#[]⟩⟩)] from LOk.two (e := (eC 0)) (f := (eL ⟨1, 3, ⟨#[]⟩⟩)) (Blk.new w3 29 #[.int .i64 1, .int .i64 0, .int .i64 0, .int .i64 0, .int .i64 0, .int .i64 0, .string ⟨#[]⟩, .slice none 0 0, .slice none 0 0, .int .i64 3, .int .i64 0, .int .i64 0, .int .i64 1, .int .i64 1, .int .i64 3, .string ⟨#[]⟩, .slice none 0 0, .slice none 0 0]) (Blk.new w3 29 #[.int .i64 1, .int .i64 0, .int .i64 0, .int .i64 0, .int .i64 0, .int .i64 0, .string ⟨#[]⟩, .slice none 0 0, .slice none 0 0, .int .i64 3, .int .i64 0, .int .i64 0, .int .i64 1, .int .i64 1, .int .i64 3, .string ⟨#[]⟩, .slice none 0 0, .slice none 0 0]).lt LOk.nil_ (fun h0 => absurd h0 (Nat.lt_irrefl 0)) LOk.nil_ (fun h0 => absurd h0 (Nat.lt_irrefl 0)))
  refine (ROf_any 16 _ 2 2 _).mono ?_
  rintro x w4 ⟨rfl, hb⟩
  replace HG := Lib.hid (And.intro (HG.out.1.thn hb) (HG.out.2.thn hb))
  replace HB := Lib.hid (thn HB.out hb)
  replace L1 := Lib.hid (L1.out.below hb hb.size)
  clear hb
  go_wp2_with fail
  refine (RCol_any 1 _).mono ?_
  rintro x w5 ⟨rfl, hb⟩
  replace HG := Lib.hid (And.intro (HG.out.1.thn hb) (HG.out.2.thn hb))
  replace HB := Lib.hid (thn HB.out hb)
  replace L1 := Lib.hid (L1.out.below hb hb.size)
  clear hb
  go_wp2_with fail
  have hb := al (Below.refl w5.heap.size w5) (.cells #[.int .i64 1, .int .i64 1, .int .i64 0, .int .i64 0, .int .i64 0, .int .i64 0, .string ⟨#[]⟩, .slice none 0 0, .slice none 0 0] 29)
  replace HG := Lib.hid (And.intro (HG.out.1.thn hb) (HG.out.2.thn hb))
  replace HB := Lib.hid (thn HB.out hb)
  replace L1 := Lib.hid (L1.out.below hb hb.size)
  clear hb
  have L2 := Lib.hid (show LOk (w5.alloc (.cells #[.int .i64 1, .int .i64 1, .int .i64 0, .int .i64 0, .int .i64 0, .int .i64 0, .string ⟨#[]⟩, .slice none 0 0, .slice none 0 0] 29)) (Lo (w5.alloc (.cells #[.int .i64 1, .int .i64 1, .int .i64 0, .int .i64 0, .int .i64 0, .int .i64 0, .string ⟨#[]⟩, .slice none 0 0, .slice none 0 0] 29)).heap.size) (some ⟨w5.heap.size, 0, none⟩) [(eC 1)] from LOk.one (e := (eC 1)) (Blk.new w5 29 #[.int .i64 1, .int .i64 1, .int .i64 0, .int .i64 0, .int .i64 0, .int .i64 0, .string ⟨#[]⟩, .slice none 0 0, .slice none 0 0]) (Blk.new w5 29 #[.int .i64 1, .int .i64 1, .int .i64 0, .int .i64 0, .int .i64 0, .int .i64 0, .string ⟨#[]⟩, .slice none 0 0, .slice none 0 0]).lt LOk.nil_ (fun h0 => absurd h0 (Nat.lt_irrefl 0)))
  refine (ROf_any 22 _ 1 1 _).mono ?_
  rintro x w6 ⟨rfl, hb⟩
  replace HG := Lib.hid (And.intro (HG.out.1.thn hb) (HG.out.2.thn hb))
  replace HB := Lib.hid (thn HB.out hb)
  replace L1 := Lib.hid (L1.out.below hb hb.size)
  replace L2 := Lib.hid (L2.out.below hb hb.size)
  clear hb
  go_wp2_with fail
  have hb := al (Below.refl w6.heap.size w6) (.cells #[.int .i64 22, .int .i64 0, .int .i64 0, .int .i64 0, .int .i64 0, .int .i64 0, .string ⟨#[]⟩, .slice (some ⟨w5.heap.size, 0, none⟩) 1 1, .slice none 0 0] 29)
  replace HG := Lib.hid (And.intro (HG.out.1.thn hb) (HG.out.2.thn hb))
  replace HB := Lib.hid (thn HB.out hb)
  replace L1 := Lib.hid (L1.out.below hb hb.size)
  replace L2 := Lib.hid (L2.out.below hb hb.size)
  clear hb
  have L3 := Lib.hid (show LOk (w6.alloc (.cells #[.int .i64 22, .int .i64 0, .int .i64 0, .int .i64 0, .int .i64 0, .int .i64 0, .string ⟨#[]⟩, .slice (some ⟨w5.heap.size, 0, none⟩) 1 1, .slice none 0 0] 29)) (Lo (w6.alloc (.cells #[.int .i64 22, .int .i64 0, .int .i64 0, .int .i64 0, .int .i64 0, .int .i64 0, .string ⟨#[]⟩, .slice (some ⟨w5.heap.size, 0, none⟩) 1 1, .slice none 0 0] 29)).heap.size) (some ⟨w6.heap.size, 0, none⟩) [(eO 22 [(eC 1)])] from LOk.one (e := (eO 22 [(eC 1)])) (Blk.new w6 29 #[.int .i64 22, .int .i64 0, .int .i64 0, .int .i64 0, .int .i64 0, .int .i64 0, .string ⟨#[]⟩, .slice (some ⟨w5.heap.size, 0, none⟩) 1 1, .slice none 0 0]) (Blk.new w6 29 #[.int .i64 22, .int .i64 0, .int .i64 0, .int .i64 0, .int .i64 0, .int .i64 0, .string ⟨#[]⟩, .slice (some ⟨w5.heap.size, 0, none⟩) 1 1, .slice none 0 0]).lt L2.out (fun h0 => absurd h0 (Nat.lt_irrefl 0)))
  clear L2
  refine (ROf_any 21 _ 1 1 _).mono ?_
  rintro x w7 ⟨rfl, hb⟩
  replace HG := Lib.hid (And.intro (HG.out.1.thn hb) (HG.out.2.thn hb))
  replace HB := Lib.hid (thn HB.out hb)
  replace L1 := Lib.hid (L1.out.below hb hb.size)
  replace L3 := Lib.hid (L3.out.below hb hb.size)
  clear hb
  go_wp2_with fail
  have hb := al (Below.refl w7.heap.size w7) (.cells #[.int .i64 16, .int .i64 0, .int .i64 0, .int .i64 0, .int .i64 0, .int .i64 0, .string ⟨#[]⟩, .slice (some ⟨w3.heap.size, 0, none⟩) 2 2, .slice none 0 0, .int .i64 21, .int .i64 0, .int .i64 0, .int .i64 0, .int .i64 0, .int .i64 0, .string ⟨#[]⟩, .slice (some ⟨w6.heap.size, 0, none⟩) 1 1, .slice none 0 0] 29)
  replace HG := Lib.hid (And.intro (HG.out.1.thn hb) (HG.out.2.thn hb))
  replace HB := Lib.hid (thn HB.out hb)
  replace L1 := Lib.hid (L1.out.below hb hb.size)
  replace L3 := Lib.hid (L3.out.below hb hb.size)
  clear hb
  have L4 := Lib.hid (show LOk (w7.alloc (.cells #[.int .i64 16, .int .i64 0, .int .i64 0, .int .i64 0, .int .i64 0, .int .i64 0, .string ⟨#[]⟩, .slice (some ⟨w3.heap.size, 0, none⟩) 2 2, .slice none 0 0, .int .i64 21, .int .i64 0, .int .i64 0, .int .i64 0, .int .i64 0, .int .i64 0, .string ⟨#[]⟩, .slice (some ⟨w6.heap.size, 0, none⟩) 1 1, .slice none 0 0] 29)) (Lo (w7.alloc (.cells #[.int .i64 16, .int .i64 0, .int .i64 0, .int .i64 0, .int .i64 0, .int .i64 0, .string ⟨#[]⟩, .slice (some ⟨w3.heap.size, 0, none⟩) 2 2, .slice none 0 0, .int .i64 21, .int .i64 0, .int .i64 0, .int .i64 0, .int .i64 0, .int .i64 0, .string ⟨#[]⟩, .slice (some ⟨w6.heap.size, 0, none⟩) 1 1, .slice none 0 0] 29)).heap.size) (some ⟨w7.heap.size, 0, none⟩) [(eO 16 [(eC 0), (eL ⟨1, 3, ⟨#[]⟩⟩)]), (eO 21 [(eO 22 [(eC 1)])])] from LOk.two (e := (eO 16 [(eC 0), (eL ⟨1, 3, ⟨#[]⟩⟩)])) (f := (eO 21 [(eO 22 [(eC 1)])])) (Blk.new w7 29 #[.int .i64 16, .int .i64 0, .int .i64 0, .int .i64 0, .int .i64 0, .int .i64 0, .string ⟨#[]⟩, .slice (some ⟨w3.heap.size, 0, none⟩) 2 2, .slice none 0 0, .int .i64 21, .int .i64 0, .int .i64 0, .int .i64 0, .int .i64 0, .int .i64 0, .string ⟨#[]⟩, .slice (some ⟨w6.heap.size, 0, none⟩) 1 1, .slice none 0 0]) (Blk.new w7 29 #[.int .i64 16, .int .i64 0, .int .i64 0, .int .i64 0, .int .i64 0, .int .i64 0, .string ⟨#[]⟩, .slice (some ⟨w3.heap.size, 0, none⟩) 2 2, .slice none 0 0, .int .i64 21, .int .i64 0, .int .i64 0, .int .i64 0, .int .i64 0, .int .i64 0, .string ⟨#[]⟩, .slice (some ⟨w6.heap.size, 0, none⟩) 1 1, .slice none 0 0]).lt L1.out (fun h0 => absurd h0 (Nat.lt_irrefl 0)) L3.out (fun h0 => absurd h0 (Nat.lt_irrefl 0)))
  clear L1
  clear L3
  refine (ROf_any 19 _ 2 2 _).mono ?_
  rintro x w8 ⟨rfl, hb⟩
  replace HG := Lib.hid (And.intro (HG.out.1.thn hb) (HG.out.2.thn hb))
  replace HB := Lib.hid (thn HB.out hb)
  replace L4 := Lib.hid (L4.out.below hb hb.size)
  clear hb
  go_wp2_with fail
  have hb := al (Below.refl w8.heap.size w8) (.cells #[.int .i64 19, .int .i64 0, .int .i64 0, .int .i64 0, .int .i64 0, .int .i64 0, .string ⟨#[]⟩, .slice (some ⟨w7.heap.size, 0, none⟩) 2 2, .slice none 0 0] 29)
  replace HG := Lib.hid (And.intro (HG.out.1.thn hb) (HG.out.2.thn hb))
  replace HB := Lib.hid (thn HB.out hb)
  replace L4 := Lib.hid (L4.out.below hb hb.size)
  clear hb
  have B1 := Lib.hid (Blk.new w8 29 #[.int .i64 19, .int .i64 0, .int .i64 0, .int .i64 0, .int .i64 0, .int .i64 0, .string ⟨#[]⟩, .slice (some ⟨w7.heap.size, 0, none⟩) 2 2, .slice none 0 0])
  -- String
  refine (aw_String (some ⟨w7.heap.size, 0, none⟩) _ HG.out.1 HG.out.2 L4.out).mono ?_
  rintro x w9 ⟨rfl, hb⟩
  replace HG := Lib.hid (And.intro (HG.out.1.thn hb) (HG.out.2.thn hb))
  replace HB := Lib.hid (thn HB.out hb)
  replace L4 := Lib.hid (L4.out.below hb hb.size)
  replace B1 := Lib.hid (B1.out.below hb B1.out.lt)
  clear hb
  go_wp2_with fail
  -- Parse
  refine (aw_Parse _ HG.out.1 HG.out.2).mono ?_
  rintro x w10 ⟨A2, R2, c2, d2, rfl, hb, hl⟩
  replace HG := Lib.hid (And.intro (HG.out.1.thn hb) (HG.out.2.thn hb))
  replace HB := Lib.hid (thn HB.out hb)
  replace L4 := Lib.hid (L4.out.below hb hb.size)
  replace B1 := Lib.hid (B1.out.below hb B1.out.lt)
  have LP := Lib.hid hl
  clear hb hl
  have hb := al (Below.refl w10.heap.size w10) (.cells #[.int .i64 19, .int .i64 0, .int .i64 0, .int .i64 0, .int .i64 0, .int .i64 0, .string ⟨#[]⟩, .slice A2 2 c2, .slice R2 0 d2] 29)
  replace HG := Lib.hid (And.intro (HG.out.1.thn hb) (HG.out.2.thn hb))
  replace HB := Lib.hid (thn HB.out hb)
  replace L4 := Lib.hid (L4.out.below hb hb.size)
  replace B1 := Lib.hid (B1.out.below hb B1.out.lt)
  replace LP := Lib.hid (LP.out.below hb hb.size)
  clear hb
  have B2 := Lib.hid (Blk.new w10 29 #[.int .i64 19, .int .i64 0, .int .i64 0, .int .i64 0, .int .i64 0, .int .i64 0, .string ⟨#[]⟩, .slice A2 2 c2, .slice R2 0 d2])
  have a0 := B1.out
  have x0 := a0.cell 0
  have x1 := a0.cell 1
  have x2 := a0.cell 2
  have x3 := a0.cell 3
  have x4 := a0.cell 4
  have x5 := a0.cell 5
  have x6 := a0.cell 6
  have x7 := a0.cell 7
  have x8 := a0.cell 8
  simp only [List.getElem?_toArray, List.getElem?_cons_succ, List.getElem?_cons_zero] at x0 x1 x2 x3 x4 x5 x6 x7 x8
  clear a0
  go_wp2_with fail
  clear x0 x1 x2 x3 x4 x5 x6 x7 x8
  -- Same
  refine (aw_Same (some ⟨w7.heap.size, 0, none⟩) A2 R2 c2 d2 _ HG.out.2 L4.out LP.out).mono ?_
  rintro x w11 ⟨rfl, hb⟩
  replace HG := Lib.hid (And.intro (HG.out.1.thn hb) (HG.out.2.thn hb))
  replace HB := Lib.hid (thn HB.out hb)
  replace L4 := Lib.hid (L4.out.below hb hb.size)
  replace B1 := Lib.hid (B1.out.below hb B1.out.lt)
  replace LP := Lib.hid (LP.out.below hb hb.size)
  replace B2 := Lib.hid (B2.out.below hb B2.out.lt)
  clear hb LP B2
  go_upto_region 5 with fail
  refine wp_region_growP (W := w11) 11 9 _ [[], [], [], [], [], [2, 3, 4], [0, 1, 5], [6], [7], [7], []] [10] (fun i u w => match i with | 0 => u = .agg #[.int .i64 19, .int .i64 0, .int .i64 0, .int .i64 0, .int .i64 0, .int .i64 0, .string ⟨#[]⟩, .slice (some ⟨w7.heap.size, 0, none⟩) 2 2, .slice none 0 0] | 1 => ∃ g, (u = .slice (some ⟨g, 0, none⟩) 3 3 ∧ w11.heap.size ≤ g) ∧ Blk w g 50 #[.int .i64 1, .bool false, .int .i64 1, .bool true, .int .i64 3, .bool true] | 2 => u = .agg #[.int .i64 1, .int .i64 5, .string ⟨#[]⟩] | 3 => u = .agg #[.int .i64 0, .int .i64 0, .string ⟨#[]⟩] | 4 => u = .agg #[.int .i64 0, .int .i64 0, .string ⟨#[]⟩] | 5 => ∃ g, (u = .slice (some ⟨g, 0, none⟩) 3 3 ∧ w11.heap.size ≤ g) ∧ Blk w g 25 #[.int .i64 1, .int .i64 5, .string ⟨#[]⟩, .int .i64 0, .int .i64 0, .string ⟨#[]⟩, .int .i64 0, .int .i64 0, .string ⟨#[]⟩] | 6 => u = .tuple #[.agg #[.int .i64 2, .int .i64 0, .string ⟨#[]⟩], .int .i64 0] | 7 => u = .tuple #[.agg #[.int .i64 2, .int .i64 0, .string ⟨#[]⟩], .int .i64 0] | 8 => u = .agg #[.int .i64 2, .int .i64 0, .string ⟨#[]⟩] | 9 => u = .int .i64 0 | _ => ∃ g, (u = .pointer (some ⟨g, 0, none⟩) ∧ w11.heap.size ≤ g) ∧ Blk w g 25 #[.int .i64 0, .int .i64 0, .string ⟨#[]⟩]) (by kernel_rfl) (by kernel_rfl)  rfl (by decide) ?hY ?hQ ?hD ⟨?o0, ?o1, ?o2, ?o3, ?o4, ?o5, ?o6, ?o7, ?o8, ?o9, ?o10, trivial⟩ ?fin
  case hY =>
    intro f w' hb hd
    have h7 : f 7 = .tuple #[.agg #[.int .i64 2, .int .i64 0, .string ⟨#[]⟩], .int .i64 0] := hd 7 (by decide) (by decide)
    clear hd
    refine ⟨.int .i64 0, .inl ⟨rfl, fun w0 => ?_⟩, rfl⟩
    rw [show (List.range 11).filter (fun i => i != 9) = [0, 1, 2, 3, 4, 5, 6, 7, 8, 10] from rfl]
    simp only [fillL, Region.dstOf, List.getElem?_toArray, List.getElem?_cons_zero, List.getElem?_cons_succ, Option.bind_some, Act.put]
    rw [h7]
    go_simp
    try rfl
  case hQ => exact fun _ _ _ _ h => h
  case hD =>
    intro i u w1 w2 hb hd
    split at hd <;> first | exact hd | exact hd.imp fun g hg => ⟨hg.1, hg.2.below hb hg.2.lt⟩
  case o0 =>
    refine growOne_of (pre := []) rfl ?_
    simp only [fillL, Act.put]
    intro f w' hb hp
    have hq := B1.out.below hb B1.out.lt
    have x0 := hq.cell 0
    have x1 := hq.cell 1
    have x2 := hq.cell 2
    have x3 := hq.cell 3
    have x4 := hq.cell 4
    have x5 := hq.cell 5
    have x6 := hq.cell 6
    have x7 := hq.cell 7
    have x8 := hq.cell 8
    simp only [List.getElem?_toArray, List.getElem?_cons_succ, List.getElem?_cons_zero] at x0 x1 x2 x3 x4 x5 x6 x7 x8
    clear hq
    clear hp
    clear hb
    go_wp2_with fail
    exact ⟨Below.refl _ _, rfl, fun h => by simp at h⟩
  case o1 =>
    refine growOne_of (pre := []) rfl ?_
    simp only [fillL, Act.put]
    intro f w' hb hp
    have hsz := hb.size
    have hT := three_any w'
    clear hp
    clear hb
    go_wp2_with fail
    refine hT.mono ?_
    rintro x w9 ⟨rfl, rfl⟩
    have HO : Hid (∃ g, (Value.slice (some ⟨w'.heap.size, 0, none⟩) 3 3 = .slice (some ⟨g, 0, none⟩) 3 3 ∧ w11.heap.size ≤ g) ∧ Blk (w'.alloc (.cells #[.int .i64 1, .bool false, .int .i64 1, .bool true, .int .i64 3, .bool true] 50)) g 50 #[.int .i64 1, .bool false, .int .i64 1, .bool true, .int .i64 3, .bool true]) := Lib.hid ⟨_, ⟨rfl, hsz⟩, Blk.new w' _ _⟩
    go_wp2_with fail
    exact ⟨al (Below.refl _ _) _, HO.out, fun h => by simp at h⟩
  case o2 =>
    refine growOne_of (pre := []) rfl ?_
    simp only [fillL, Act.put]
    intro f w' hb hp
    clear hp
    clear hb
    go_wp2_with fail
    refine (rInt_any 5 w').mono ?_
    rintro x w9 ⟨rfl, hb9⟩
    go_wp2_with fail
    exact ⟨hb9, rfl, fun h => by simp at h⟩
  case o3 =>
    refine growOne_of (pre := []) rfl ?_
    simp only [fillL, Act.put]
    intro f w' hb hp
    clear hp
    clear hb
    go_wp2_with fail
    refine (rNull_any w').mono ?_
    rintro x w9 ⟨rfl, hb9⟩
    go_wp2_with fail
    exact ⟨hb9, rfl, fun h => by simp at h⟩
  case o4 =>
    refine growOne_of (pre := []) rfl ?_
    simp only [fillL, Act.put]
    intro f w' hb hp
    clear hp
    clear hb
    go_wp2_with fail
    refine (rNull_any w').mono ?_
    rintro x w9 ⟨rfl, hb9⟩
    go_wp2_with fail
    exact ⟨hb9, rfl, fun h => by simp at h⟩
  case o5 =>
    refine growOne_of (pre := [2, 3, 4]) rfl ?_
    simp only [fillL, Region.dstOf, List.getElem?_toArray, List.getElem?_cons_zero, List.getElem?_cons_succ, Option.bind_some, Act.put]
    intro f w' hb hp
    have h2 : f 2 = .agg #[.int .i64 1, .int .i64 5, .string ⟨#[]⟩] := hp 2 (by decide)
    have h3 : f 3 = .agg #[.int .i64 0, .int .i64 0, .string ⟨#[]⟩] := hp 3 (by decide)
    have h4 : f 4 = .agg #[.int .i64 0, .int .i64 0, .string ⟨#[]⟩] := hp 4 (by decide)
    have hsz := hb.size
    clear hp
    rw [h2, h3, h4]
    clear h2 h3 h4
    clear hb
    go_wp2_with fail
    exact ⟨al (Below.refl _ _) _, ⟨_, ⟨rfl, hsz⟩, Blk.new w' _ _⟩, fun h => by simp at h⟩
  case o6 =>
    refine growOne_of (pre := [0, 1, 5]) rfl ?_
    simp only [fillL, Region.dstOf, List.getElem?_toArray, List.getElem?_cons_zero, List.getElem?_cons_succ, Option.bind_some, Act.put]
    intro f w' hb hp
    have h0 : f 0 = .agg #[.int .i64 19, .int .i64 0, .int .i64 0, .int .i64 0, .int .i64 0, .int .i64 0, .string ⟨#[]⟩, .slice (some ⟨w7.heap.size, 0, none⟩) 2 2, .slice none 0 0] := hp 0 (by decide)
    obtain ⟨g1, ⟨h1, hn1⟩, hB1⟩ := hp 1 (by decide)
    obtain ⟨g5, ⟨h5, hn5⟩, hB5⟩ := hp 5 (by decide)
    have HEv := Lib.hid (aw_Eval (some ⟨w7.heap.size, 0, none⟩) g1 g5 w' (HG.out.2.thn hb) (L4.out.below hb hb.size) (three_reads hB1) (row_reads hB5))
    clear hB1 hB5 hn1 hn5
    clear hp
    rw [h0, h1, h5]
    clear h0 h1 h5
    clear hb
    go_wp2_with fail
    refine HEv.out.mono ?_
    rintro x w9 ⟨rfl, hb9⟩
    go_wp2_with fail
    exact ⟨hb9, rfl, fun h => by simp at h⟩
  case o7 =>
    refine growOne_of (pre := [6]) rfl ?_
    simp only [fillL, Region.dstOf, List.getElem?_toArray, List.getElem?_cons_zero, List.getElem?_cons_succ, Option.bind_some, Act.put]
    intro f w' hb hp
    have h6 : f 6 = .tuple #[.agg #[.int .i64 2, .int .i64 0, .string ⟨#[]⟩], .int .i64 0] := hp 6 (by decide)
    clear hp
    rw [h6]
    clear h6
    clear hb
    go_wp2_with fail
    exact ⟨Below.refl _ _, rfl, fun h => by simp at h⟩
  case o8 =>
    refine growOne_of (pre := [7]) rfl ?_
    simp only [fillL, Region.dstOf, List.getElem?_toArray, List.getElem?_cons_zero, List.getElem?_cons_succ, Option.bind_some, Act.put]
    intro f w' hb hp
    have h7 : f 7 = .tuple #[.agg #[.int .i64 2, .int .i64 0, .string ⟨#[]⟩], .int .i64 0] := hp 7 (by decide)
    clear hp
    rw [h7]
    clear h7
    clear hb
    go_wp2_with fail
    exact ⟨Below.refl _ _, rfl, fun h => by simp at h⟩
  case o9 =>
    refine growOne_of (pre := [7]) rfl ?_
    simp only [fillL, Region.dstOf, List.getElem?_toArray, List.getElem?_cons_zero, List.getElem?_cons_succ, Option.bind_some, Act.put]
    intro f w' hb hp
    have h7 : f 7 = .tuple #[.agg #[.int .i64 2, .int .i64 0, .string ⟨#[]⟩], .int .i64 0] := hp 7 (by decide)
    clear hp
    rw [h7]
    clear h7
    clear hb
    go_wp2_with fail
    exact ⟨Below.refl _ _, rfl, fun h => by simp at h⟩
  case o10 =>
    refine growOne_of (pre := []) rfl ?_
    simp only [fillL, Act.put]
    intro f w' hb hp
    have hsz := hb.size
    clear hp
    clear hb
    go_wp2_with fail
    exact ⟨al (Below.refl _ _) _, ⟨_, ⟨rfl, hsz⟩, Blk.new w' _ _⟩, fun _ => ⟨_, rfl, Nat.le_refl _, by simp⟩⟩
  case fin =>
    intro f w' hb hd _
    have e0 : f 0 = .agg #[.int .i64 19, .int .i64 0, .int .i64 0, .int .i64 0, .int .i64 0, .int .i64 0, .string ⟨#[]⟩, .slice (some ⟨w7.heap.size, 0, none⟩) 2 2, .slice none 0 0] := hd 0 (by decide)
    obtain ⟨gc, ⟨e1, hnc⟩, hBc⟩ := hd 1 (by decide)
    have e2 : f 2 = .agg #[.int .i64 1, .int .i64 5, .string ⟨#[]⟩] := hd 2 (by decide)
    have e3 : f 3 = .agg #[.int .i64 0, .int .i64 0, .string ⟨#[]⟩] := hd 3 (by decide)
    have e4 : f 4 = .agg #[.int .i64 0, .int .i64 0, .string ⟨#[]⟩] := hd 4 (by decide)
    obtain ⟨gr, ⟨e5, hnr⟩, hBr⟩ := hd 5 (by decide)
    have e6 : f 6 = .tuple #[.agg #[.int .i64 2, .int .i64 0, .string ⟨#[]⟩], .int .i64 0] := hd 6 (by decide)
    have e7 : f 7 = .tuple #[.agg #[.int .i64 2, .int .i64 0, .string ⟨#[]⟩], .int .i64 0] := hd 7 (by decide)
    have e8 : f 8 = .agg #[.int .i64 2, .int .i64 0, .string ⟨#[]⟩] := hd 8 (by decide)
    have e9 : f 9 = .int .i64 0 := hd 9 (by decide)
    obtain ⟨g8, ⟨e10, hn8⟩, hB8⟩ := hd 10 (by decide)
    clear hd
    rw [show List.range 11 = [0, 1, 2, 3, 4, 5, 6, 7, 8, 9, 10] from rfl]
    simp only [fillL, Region.dstOf, List.getElem?_toArray, List.getElem?_cons_zero, List.getElem?_cons_succ, Option.bind_some, Act.put]
    rw [e0, e1, e2, e3, e4, e5, e6, e7, e8, e9, e10]
    clear e0 e1 e2 e3 e4 e5 e6 e7 e8 e9 e10
    obtain ⟨⟨s0, s1, s2⟩, q0, q1, q2⟩ := hB8.three
    have hl8 := hB8.lt
    have B8 := Lib.hid (hB8.three_set (.int .i64 2) (.int .i64 0) (.string ⟨#[]⟩))
    have hbb := (((hb.setCell (p := ⟨g8, 0, none⟩) hn8 (.int .i64 2)).setCell (p := ⟨g8, 1, none⟩) hn8 (.int .i64 0)).setCell (p := ⟨g8, 2, none⟩) hn8 (.string ⟨#[]⟩))
    clear hB8
    replace HG := Lib.hid (And.intro (HG.out.1.thn hbb) (HG.out.2.thn hbb))
    replace HB := Lib.hid (thn HB.out hbb)
    replace L4 := Lib.hid (L4.out.below hbb hbb.size)
    replace B1 := Lib.hid (B1.out.below hbb B1.out.lt)
    clear hb hBc hBr hbb
    go_wp2_with fail
    clear s0 s1 s2 q0 q1 q2 hl8
    refine (rInt_any 7 _).mono ?_
    rintro x w13 ⟨rfl, hb⟩
    replace HG := Lib.hid (And.intro (HG.out.1.thn hb) (HG.out.2.thn hb))
    replace HB := Lib.hid (thn HB.out hb)
    replace L4 := Lib.hid (L4.out.below hb hb.size)
    replace B1 := Lib.hid (B1.out.below hb B1.out.lt)
    replace B8 := Lib.hid (B8.out.below hb B8.out.lt)
    clear hb
    go_wp2_with fail
    refine (RLit_any ⟨1, 7, ⟨#[]⟩⟩ _).mono ?_
    rintro x w14 ⟨rfl, hb⟩
    replace HG := Lib.hid (And.intro (HG.out.1.thn hb) (HG.out.2.thn hb))
    replace HB := Lib.hid (thn HB.out hb)
    replace L4 := Lib.hid (L4.out.below hb hb.size)
    replace B1 := Lib.hid (B1.out.below hb B1.out.lt)
    replace B8 := Lib.hid (B8.out.below hb B8.out.lt)
    clear hb
    go_wp2_with fail
    refine (RCol_any 0 _).mono ?_
    rintro x w15 ⟨rfl, hb⟩
    replace HG := Lib.hid (And.intro (HG.out.1.thn hb) (HG.out.2.thn hb))
    replace HB := Lib.hid (thn HB.out hb)
    replace L4 := Lib.hid (L4.out.below hb hb.size)
    replace B1 := Lib.hid (B1.out.below hb B1.out.lt)
    replace B8 := Lib.hid (B8.out.below hb B8.out.lt)
    clear hb
    go_wp2_with fail
    have hb := al (Below.refl w15.heap.size w15) (.cells #[.int .i64 3, .int .i64 0, .int .i64 0, .int .i64 1, .int .i64 1, .int .i64 7, .string ⟨#[]⟩, .slice none 0 0, .slice none 0 0, .int .i64 1, .int .i64 0, .int .i64 0, .int .i64 0, .int .i64 0, .int .i64 0, .string ⟨#[]⟩, .slice none 0 0, .slice none 0 0] 29)
    replace HG := Lib.hid (And.intro (HG.out.1.thn hb) (HG.out.2.thn hb))
    replace HB := Lib.hid (thn HB.out hb)
    replace L4 := Lib.hid (L4.out.below hb hb.size)
    replace B1 := Lib.hid (B1.out.below hb B1.out.lt)
    replace B8 := Lib.hid (B8.out.below hb B8.out.lt)
    clear hb
    have L5 := Lib.hid (show LOk (w15.alloc (.cells #[.int .i64 3, .int .i64 0, .int .i64 0, .int .i64 1, .int .i64 1, .int .i64 7, .string ⟨#[]⟩, .slice none 0 0, .slice none 0 0, .int .i64 1, .int .i64 0, .int .i64 0, .int .i64 0, .int .i64 0, .int .i64 0, .string ⟨#[]⟩, .slice none 0 0, .slice none 0 0] 29)) (Lo (w15.alloc (.cells #[.int .i64 3, .int .i64 0, .int .i64 0, .int .i64 1, .int .i64 1, .int .i64 7, .string ⟨#[]⟩, .slice none 0 0, .slice none 0 0, .int .i64 1, .int .i64 0, .int .i64 0, .int .i64 0, .int .i64 0, .int .i64 0, .string ⟨#[]⟩, .slice none 0 0, .slice none 0 0] 29)).heap.size) (some ⟨w15.heap.size, 0, none⟩) [(eL ⟨1, 7, ⟨#[]⟩⟩), (eC 0)] from LOk.two (e := (eL ⟨1, 7, ⟨#[]⟩⟩)) (f := (eC 0)) (Blk.new w15 29 #[.int .i64 3, .int .i64 0, .int .i64 0, .int .i64 1, .int .i64 1, .int .i64 7, .string ⟨#[]⟩, .slice none 0 0, .slice none 0 0, .int .i64 1, .int .i64 0, .int .i64 0, .int .i64 0, .int .i64 0, .int .i64 0, .string ⟨#[]⟩, .slice none 0 0, .slice none 0 0]) (Blk.new w15 29 #[.int .i64 3, .int .i64 0, .int .i64 0, .int .i64 1, .int .i64 1, .int .i64 7, .string ⟨#[]⟩, .slice none 0 0, .slice none 0 0, .int .i64 1, .int .i64 0, .int .i64 0, .int .i64 0, .int .i64 0, .int .i64 0, .string ⟨#[]⟩, .slice none 0 0, .slice none 0 0]).lt LOk.nil_ (fun h0 => absurd h0 (Nat.lt_irrefl 0)) LOk.nil_ (fun h0 => absurd h0 (Nat.lt_irrefl 0)))
    refine (ROf_any 7 _ 2 2 _).mono ?_
    rintro x w16 ⟨rfl, hb⟩
    replace HG := Lib.hid (And.intro (HG.out.1.thn hb) (HG.out.2.thn hb))
    replace HB := Lib.hid (thn HB.out hb)
    replace L4 := Lib.hid (L4.out.below hb hb.size)
    replace B1 := Lib.hid (B1.out.below hb B1.out.lt)
    replace B8 := Lib.hid (B8.out.below hb B8.out.lt)
    replace L5 := Lib.hid (L5.out.below hb hb.size)
    clear hb
    go_wp2_with fail
    refine (three_any _).mono ?_
    rintro x wx ⟨rfl, rfl⟩
    have hb := al (Below.refl w16.heap.size w16) (.cells #[.int .i64 1, .bool false, .int .i64 1, .bool true, .int .i64 3, .bool true] 50)
    replace HG := Lib.hid (And.intro (HG.out.1.thn hb) (HG.out.2.thn hb))
    replace HB := Lib.hid (thn HB.out hb)
    replace L4 := Lib.hid (L4.out.below hb hb.size)
    replace B1 := Lib.hid (B1.out.below hb B1.out.lt)
    replace B8 := Lib.hid (B8.out.below hb B8.out.lt)
    replace L5 := Lib.hid (L5.out.below hb hb.size)
    clear hb
    have C1 := Lib.hid (three_reads (Blk.new w16 50 #[.int .i64 1, .bool false, .int .i64 1, .bool true, .int .i64 3, .bool true]))
    go_wp2_with fail
    refine (aw_KindD (some ⟨w15.heap.size, 0, none⟩) _ _ HG.out.2 L5.out C1.out).mono ?_
    rintro x w17 ⟨rfl, hb⟩
    replace HG := Lib.hid (And.intro (HG.out.1.thn hb) (HG.out.2.thn hb))
    replace HB := Lib.hid (thn HB.out hb)
    replace L4 := Lib.hid (L4.out.below hb hb.size)
    replace B1 := Lib.hid (B1.out.below hb B1.out.lt)
    replace B8 := Lib.hid (B8.out.below hb B8.out.lt)
    replace L5 := Lib.hid (L5.out.below hb hb.size)
    clear hb
    go_wp2_with fail
    clear C1 L5
    have hb := al (Below.refl w17.heap.size w17) (.cells #[.int .i64 1, .bool true] 50)
    replace HG := Lib.hid (And.intro (HG.out.1.thn hb) (HG.out.2.thn hb))
    replace HB := Lib.hid (thn HB.out hb)
    replace L4 := Lib.hid (L4.out.below hb hb.size)
    replace B1 := Lib.hid (B1.out.below hb B1.out.lt)
    replace B8 := Lib.hid (B8.out.below hb B8.out.lt)
    clear hb
    have B10 := Lib.hid (Blk.new w17 50 #[.int .i64 1, .bool true])
    refine (RCol_any 0 _).mono ?_
    rintro x w18 ⟨rfl, hb⟩
    replace HG := Lib.hid (And.intro (HG.out.1.thn hb) (HG.out.2.thn hb))
    replace HB := Lib.hid (thn HB.out hb)
    replace L4 := Lib.hid (L4.out.below hb hb.size)
    replace B1 := Lib.hid (B1.out.below hb B1.out.lt)
    replace B8 := Lib.hid (B8.out.below hb B8.out.lt)
    replace B10 := Lib.hid (B10.out.below hb B10.out.lt)
    clear hb
    go_wp2_with fail
    refine (RCol_any 2 _).mono ?_
    rintro x w19 ⟨rfl, hb⟩
    replace HG := Lib.hid (And.intro (HG.out.1.thn hb) (HG.out.2.thn hb))
    replace HB := Lib.hid (thn HB.out hb)
    replace L4 := Lib.hid (L4.out.below hb hb.size)
    replace B1 := Lib.hid (B1.out.below hb B1.out.lt)
    replace B8 := Lib.hid (B8.out.below hb B8.out.lt)
    replace B10 := Lib.hid (B10.out.below hb B10.out.lt)
    clear hb
    go_wp2_with fail
    have hb := al (Below.refl w19.heap.size w19) (.cells #[.int .i64 1, .int .i64 0, .int .i64 0, .int .i64 0, .int .i64 0, .int .i64 0, .string ⟨#[]⟩, .slice none 0 0, .slice none 0 0, .int .i64 1, .int .i64 2, .int .i64 0, .int .i64 0, .int .i64 0, .int .i64 0, .string ⟨#[]⟩, .slice none 0 0, .slice none 0 0] 29)
    replace HG := Lib.hid (And.intro (HG.out.1.thn hb) (HG.out.2.thn hb))
    replace HB := Lib.hid (thn HB.out hb)
    replace L4 := Lib.hid (L4.out.below hb hb.size)
    replace B1 := Lib.hid (B1.out.below hb B1.out.lt)
    replace B8 := Lib.hid (B8.out.below hb B8.out.lt)
    replace B10 := Lib.hid (B10.out.below hb B10.out.lt)
    clear hb
    have L6 := Lib.hid (show LOk (w19.alloc (.cells #[.int .i64 1, .int .i64 0, .int .i64 0, .int .i64 0, .int .i64 0, .int .i64 0, .string ⟨#[]⟩, .slice none 0 0, .slice none 0 0, .int .i64 1, .int .i64 2, .int .i64 0, .int .i64 0, .int .i64 0, .int .i64 0, .string ⟨#[]⟩, .slice none 0 0, .slice none 0 0] 29)) (Lo (w19.alloc (.cells #[.int .i64 1, .int .i64 0, .int .i64 0, .int .i64 0, .int .i64 0, .int .i64 0, .string ⟨#[]⟩, .slice none 0 0, .slice none 0 0, .int .i64 1, .int .i64 2, .int .i64 0, .int .i64 0, .int .i64 0, .int .i64 0, .string ⟨#[]⟩, .slice none 0 0, .slice none 0 0] 29)).heap.size) (some ⟨w19.heap.size, 0, none⟩) [(eC 0), (eC 2)] from LOk.two (e := (eC 0)) (f := (eC 2)) (Blk.new w19 29 #[.int .i64 1, .int .i64 0, .int .i64 0, .int .i64 0, .int .i64 0, .int .i64 0, .string ⟨#[]⟩, .slice none 0 0, .slice none 0 0, .int .i64 1, .int .i64 2, .int .i64 0, .int .i64 0, .int .i64 0, .int .i64 0, .string ⟨#[]⟩, .slice none 0 0, .slice none 0 0]) (Blk.new w19 29 #[.int .i64 1, .int .i64 0, .int .i64 0, .int .i64 0, .int .i64 0, .int .i64 0, .string ⟨#[]⟩, .slice none 0 0, .slice none 0 0, .int .i64 1, .int .i64 2, .int .i64 0, .int .i64 0, .int .i64 0, .int .i64 0, .string ⟨#[]⟩, .slice none 0 0, .slice none 0 0]).lt LOk.nil_ (fun h0 => absurd h0 (Nat.lt_irrefl 0)) LOk.nil_ (fun h0 => absurd h0 (Nat.lt_irrefl 0)))
    refine (ROf_any 4 _ 2 2 _).mono ?_
    rintro x w20 ⟨rfl, hb⟩
    replace HG := Lib.hid (And.intro (HG.out.1.thn hb) (HG.out.2.thn hb))
    replace HB := Lib.hid (thn HB.out hb)
    replace L4 := Lib.hid (L4.out.below hb hb.size)
    replace B1 := Lib.hid (B1.out.below hb B1.out.lt)
    replace B8 := Lib.hid (B8.out.below hb B8.out.lt)
    replace B10 := Lib.hid (B10.out.below hb B10.out.lt)
    replace L6 := Lib.hid (L6.out.below hb hb.size)
    clear hb
    go_wp2_with fail
    refine (three_any _).mono ?_
    rintro x wx ⟨rfl, rfl⟩
    have hb := al (Below.refl w20.heap.size w20) (.cells #[.int .i64 1, .bool false, .int .i64 1, .bool true, .int .i64 3, .bool true] 50)
    replace HG := Lib.hid (And.intro (HG.out.1.thn hb) (HG.out.2.thn hb))
    replace HB := Lib.hid (thn HB.out hb)
    replace L4 := Lib.hid (L4.out.below hb hb.size)
    replace B1 := Lib.hid (B1.out.below hb B1.out.lt)
    replace B8 := Lib.hid (B8.out.below hb B8.out.lt)
    replace B10 := Lib.hid (B10.out.below hb B10.out.lt)
    replace L6 := Lib.hid (L6.out.below hb hb.size)
    clear hb
    have C1 := Lib.hid (three_reads (Blk.new w20 50 #[.int .i64 1, .bool false, .int .i64 1, .bool true, .int .i64 3, .bool true]))
    go_wp2_with fail
    refine (aw_KindB (some ⟨w19.heap.size, 0, none⟩) _ _ HG.out.2 L6.out C1.out).mono ?_
    rintro x w21 ⟨rfl, hb⟩
    replace HG := Lib.hid (And.intro (HG.out.1.thn hb) (HG.out.2.thn hb))
    replace HB := Lib.hid (thn HB.out hb)
    replace L4 := Lib.hid (L4.out.below hb hb.size)
    replace B1 := Lib.hid (B1.out.below hb B1.out.lt)
    replace B8 := Lib.hid (B8.out.below hb B8.out.lt)
    replace B10 := Lib.hid (B10.out.below hb B10.out.lt)
    replace L6 := Lib.hid (L6.out.below hb hb.size)
    clear hb C1 L6
    clear L4 B1
    go_wp2_with fail
    have hz1 := B8.out.lt
    have hz2 := B10.out.lt
    have hz1a : g8 < w21.heap.size + 1 := by omega
    have hz1b : g8 < w21.heap.size + 1 + 1 := by omega
    have hz2a : w17.heap.size < w21.heap.size + 1 := by omega
    have hz2b : w17.heap.size < w21.heap.size + 1 + 1 := by omega
    have hb := al (Below.refl w21.heap.size w21) (.cells #[.int .i64 0, .bool false] 50)
    replace HG := Lib.hid (And.intro (HG.out.1.thn hb) (HG.out.2.thn hb))
    replace HB := Lib.hid (thn HB.out hb)
    replace B8 := Lib.hid (B8.out.below hb B8.out.lt)
    replace B10 := Lib.hid (B10.out.below hb B10.out.lt)
    clear hb
    obtain ⟨⟨s0, s1, s2⟩, sx⟩ := B8.out.three
    have y0 := B10.out.cell 0
    have y1 := B10.out.cell 1
    simp only [List.getElem?_toArray, List.getElem?_cons_succ, List.getElem?_cons_zero] at y0 y1
    clear sx
    have heq := @eqV
    have hf : veq 2 0 ⟨#[]⟩ 2 0 ⟨#[]⟩ = true := by simp [veq]
    go_region_held3 (fun w' => w'.cell? ⟨g8, 0, none⟩ = some (.int .i64 2) ∧ w'.cell? ⟨g8, 1, none⟩ = some (.int .i64 0) ∧ w'.cell? ⟨g8, 2, none⟩ = some (.string ⟨#[]⟩) ∧ w'.cell? ⟨w17.heap.size, 0, none⟩ = some (.int .i64 1) ∧ w'.cell? ⟨w17.heap.size, 1, none⟩ = some (.bool true)) (simp [go_sem, World.cell?_alloc_past, *]) (first | (go_at_call 46; refine (rFalse_exact _).mono ?_; rintro e w' ⟨rfl, rfl⟩))
    go_wp2_with fail
    go_ret
    exact ⟨rfl, (al HB.out _).drew⟩
end Go.Proofs.YtcbcncaoabablaaGreatDoor
namespace Go.Proofs.YtcbcncaoabablaaGreatDoor
open Go.RowKit Go.Deep

theorem HE.okC {w : World} {P P' : Nat → Prop} {h : HE} (k : h.ok w P) (hP : ∀ b, P b → P' b) : h.ok w P' := k.kept (fun _ _ => rfl) hP
set_option maxHeartbeats 16000000 in
set_option maxRecDepth 100000 in
theorem ScalarSames_any (e e2 : E) (A R A' R' : Option Addr) (c d c' d' : Nat) (w : World) (hG : GE w) (hS : GS w) (hI : EIn e) (hI' : EIn e2) (hA : LOk w (Lo w.heap.size) A e.args) (hR : ROk w (Lo w.heap.size) R e.rels) (hA' : LOk w (Lo w.heap.size) A' e2.args) (hR' : ROk w (Lo w.heap.size) R' e2.rels) :
    Calls Tryz.prog 6 #[e.val A c R d, e2.val A' c' R' d'] w fun x w' => x = .returned (.bool true) ∧ Below w.heap.size w w' := by
  have hb0 : Below w.heap.size w ((w.alloc (.cells #[.int .i64 e.op, .int .i64 e.n, .int .i64 e.m, .int .i64 e.kind, .int .i64 e.lit.k, .int .i64 e.lit.n, .string e.lit.s, .slice A e.args.length c, .slice R e.rels.length d] 29)).alloc (.cells #[.int .i64 e2.op, .int .i64 e2.n, .int .i64 e2.m, .int .i64 e2.kind, .int .i64 e2.lit.k, .int .i64 e2.lit.n, .string e2.lit.s, .slice A' e2.args.length c', .slice R' e2.rels.length d'] 29)) := al (al (Below.refl _ _) _) _
  have H0 := Lib.hid (And.intro (And.intro hI hI') (And.intro (And.intro hG hS) (And.intro hb0 (And.intro ((Blk.new w 29 #[.int .i64 e.op, .int .i64 e.n, .int .i64 e.m, .int .i64 e.kind, .int .i64 e.lit.k, .int .i64 e.lit.n, .string e.lit.s, .slice A e.args.length c, .slice R e.rels.length d]).alloc (.cells #[.int .i64 e2.op, .int .i64 e2.n, .int .i64 e2.m, .int .i64 e2.kind, .int .i64 e2.lit.k, .int .i64 e2.lit.n, .string e2.lit.s, .slice A' e2.args.length c', .slice R' e2.rels.length d'] 29)) (Blk.new' (w := (w.alloc (.cells #[.int .i64 e.op, .int .i64 e.n, .int .i64 e.m, .int .i64 e.kind, .int .i64 e.lit.k, .int .i64 e.lit.n, .string e.lit.s, .slice A e.args.length c, .slice R e.rels.length d] 29))) (t := 29) (cs := #[.int .i64 e2.op, .int .i64 e2.n, .int .i64 e2.m, .int .i64 e2.kind, .int .i64 e2.lit.k, .int .i64 e2.lit.n, .string e2.lit.s, .slice A' e2.args.length c', .slice R' e2.rels.length d']) (g := w.heap.size + 1) (by simp))))))
  have HCe : Hid (∀ W, Below (((w.alloc (.cells #[.int .i64 e.op, .int .i64 e.n, .int .i64 e.m, .int .i64 e.kind, .int .i64 e.lit.k, .int .i64 e.lit.n, .string e.lit.s, .slice A e.args.length c, .slice R e.rels.length d] 29)).alloc (.cells #[.int .i64 e2.op, .int .i64 e2.n, .int .i64 e2.m, .int .i64 e2.kind, .int .i64 e2.lit.k, .int .i64 e2.lit.n, .string e2.lit.s, .slice A' e2.args.length c', .slice R' e2.rels.length d'] 29))).heap.size ((w.alloc (.cells #[.int .i64 e.op, .int .i64 e.n, .int .i64 e.m, .int .i64 e.kind, .int .i64 e.lit.k, .int .i64 e.lit.n, .string e.lit.s, .slice A e.args.length c, .slice R e.rels.length d] 29)).alloc (.cells #[.int .i64 e2.op, .int .i64 e2.n, .int .i64 e2.m, .int .i64 e2.kind, .int .i64 e2.lit.k, .int .i64 e2.lit.n, .string e2.lit.s, .slice A' e2.args.length c', .slice R' e2.rels.length d'] 29)) W → Calls Tryz.prog 7 #[.agg #[.int .i64 e.op, .int .i64 e.n, .int .i64 e.m, .int .i64 e.kind, .int .i64 e.lit.k, .int .i64 e.lit.n, .string e.lit.s, .slice A e.args.length c, .slice R e.rels.length d]] W fun x w' => ∃ h : HE, h.e = (cutE 420 e).1 ∧ x = .returned h.val ∧ Below W.heap.size W w' ∧ h.ok w' (fun b => W.heap.size ≤ b ∧ b < w'.heap.size)) := Lib.hid fun W hb => CutW_any e A R c d W hI ((hA.below hb0 hb0.size).below hb hb.size) ((hR.below hb0 hb0.size).below hb hb.size)
  have HCf : Hid (∀ W, Below (((w.alloc (.cells #[.int .i64 e.op, .int .i64 e.n, .int .i64 e.m, .int .i64 e.kind, .int .i64 e.lit.k, .int .i64 e.lit.n, .string e.lit.s, .slice A e.args.length c, .slice R e.rels.length d] 29)).alloc (.cells #[.int .i64 e2.op, .int .i64 e2.n, .int .i64 e2.m, .int .i64 e2.kind, .int .i64 e2.lit.k, .int .i64 e2.lit.n, .string e2.lit.s, .slice A' e2.args.length c', .slice R' e2.rels.length d'] 29))).heap.size ((w.alloc (.cells #[.int .i64 e.op, .int .i64 e.n, .int .i64 e.m, .int .i64 e.kind, .int .i64 e.lit.k, .int .i64 e.lit.n, .string e.lit.s, .slice A e.args.length c, .slice R e.rels.length d] 29)).alloc (.cells #[.int .i64 e2.op, .int .i64 e2.n, .int .i64 e2.m, .int .i64 e2.kind, .int .i64 e2.lit.k, .int .i64 e2.lit.n, .string e2.lit.s, .slice A' e2.args.length c', .slice R' e2.rels.length d'] 29)) W → Calls Tryz.prog 7 #[.agg #[.int .i64 e2.op, .int .i64 e2.n, .int .i64 e2.m, .int .i64 e2.kind, .int .i64 e2.lit.k, .int .i64 e2.lit.n, .string e2.lit.s, .slice A' e2.args.length c', .slice R' e2.rels.length d']] W fun x w' => ∃ h : HE, h.e = (cutE 420 e2).1 ∧ x = .returned h.val ∧ Below W.heap.size W w' ∧ h.ok w' (fun b => W.heap.size ≤ b ∧ b < w'.heap.size)) := Lib.hid fun W hb => CutW_any e2 A' R' c' d' W hI' ((hA'.below hb0 hb0.size).below hb hb.size) ((hR'.below hb0 hb0.size).below hb hb.size)
  clear hG hS hI hI' hA hR hA' hR' hb0
  unfold E.val
  go_enter Tryz.func6, Tryz.ntmps6
  go_upto_region 1 with fail
  generalize ((w.alloc (.cells #[.int .i64 e.op, .int .i64 e.n, .int .i64 e.m, .int .i64 e.kind, .int .i64 e.lit.k, .int .i64 e.lit.n, .string e.lit.s, .slice A e.args.length c, .slice R e.rels.length d] 29)).alloc (.cells #[.int .i64 e2.op, .int .i64 e2.n, .int .i64 e2.m, .int .i64 e2.kind, .int .i64 e2.lit.k, .int .i64 e2.lit.n, .string e2.lit.s, .slice A' e2.args.length c', .slice R' e2.rels.length d'] 29)) = W0 at *
  refine wp_region_growI (W := W0) 6 [[], [0], [], [2], [], []]  (fun i lo hi u w => match i with | 0 => u = .agg #[.int .i64 e.op, .int .i64 e.n, .int .i64 e.m, .int .i64 e.kind, .int .i64 e.lit.k, .int .i64 e.lit.n, .string e.lit.s, .slice A e.args.length c, .slice R e.rels.length d] | 1 => ∃ h : HE, (h.e = (cutE 420 e).1 ∧ u = h.val) ∧ (hi ≤ w.heap.size ∧ h.ok w (fun b => lo ≤ b ∧ b < hi)) | 2 => u = .agg #[.int .i64 e2.op, .int .i64 e2.n, .int .i64 e2.m, .int .i64 e2.kind, .int .i64 e2.lit.k, .int .i64 e2.lit.n, .string e2.lit.s, .slice A' e2.args.length c', .slice R' e2.rels.length d'] | 3 => ∃ h : HE, (h.e = (cutE 420 e2).1 ∧ u = h.val) ∧ (hi ≤ w.heap.size ∧ h.ok w (fun b => lo ≤ b ∧ b < hi)) | 4 => (u = .pointer (some ⟨lo, 0, none⟩) ∧ hi = lo + 1) ∧ Blk w lo 29 #[.int .i64 0, .int .i64 0, .int .i64 0, .int .i64 0, .int .i64 0, .int .i64 0, .string ⟨#[]⟩, .slice none 0 0, .slice none 0 0] | _ => (u = .pointer (some ⟨lo, 0, none⟩) ∧ hi = lo + 1) ∧ Blk w lo 29 #[.int .i64 0, .int .i64 0, .int .i64 0, .int .i64 0, .int .i64 0, .int .i64 0, .string ⟨#[]⟩, .slice none 0 0, .slice none 0 0]) (by kernel_rfl) (by kernel_rfl) ?hD ⟨?o0, ?o1, ?o2, ?o3, ?o4, ?o5, trivial⟩ ?fin
  case hD =>
    intro i lo hi u w1 w2 hb hd
    split at hd <;> first | exact hd | (obtain ⟨h, h1, h2⟩ := hd; exact ⟨h, h1, Nat.le_trans h2.1 hb.size, h2.2.kept (fun b h => hb.block b (Nat.lt_of_lt_of_le h.2 h2.1)) fun _ h => h⟩) | (exact ⟨hd.1, hd.2.below hb hd.2.lt⟩)
  case o0 =>
    refine growOneI_of (pre := []) rfl ?_
    simp only [fillL, Act.put]
    intro f lo hi w' hb hp
    have hq := H0.out.2.2.2.1.below hb H0.out.2.2.2.1.lt
    have x0 := hq.cell 0
    have x1 := hq.cell 1
    have x2 := hq.cell 2
    have x3 := hq.cell 3
    have x4 := hq.cell 4
    have x5 := hq.cell 5
    have x6 := hq.cell 6
    have x7 := hq.cell 7
    have x8 := hq.cell 8
    simp only [List.getElem?_toArray, List.getElem?_cons_succ, List.getElem?_cons_zero] at x0 x1 x2 x3 x4 x5 x6 x7 x8
    clear hq
    clear hp
    clear hb
    go_wp2_with fail
    exact ⟨Below.refl _ _, rfl⟩
  case o1 =>
    refine growOneI_of (pre := [0]) rfl ?_
    simp only [fillL, Region.dstOf, List.getElem?_toArray, List.getElem?_cons_zero, Option.bind_some, Act.put]
    intro f lo hi w' hb hp
    have h0 : f 0 = .agg #[.int .i64 e.op, .int .i64 e.n, .int .i64 e.m, .int .i64 e.kind, .int .i64 e.lit.k, .int .i64 e.lit.n, .string e.lit.s, .slice A e.args.length c, .slice R e.rels.length d] := hp 0 (by decide)
    have HK := Lib.hid (HCe.out w' hb)
    clear hp
    rw [h0]
    clear h0
    clear hb
    go_wp2_with fail
    refine HK.out.mono ?_
    rintro x w9 ⟨h, hh, rfl, hb9, hok⟩
    have HO : Hid (∃ h' : HE, (h'.e = (cutE 420 e).1 ∧ h.val = h'.val) ∧ (w9.heap.size ≤ w9.heap.size ∧ h'.ok w9 (fun b => w'.heap.size ≤ b ∧ b < w9.heap.size))) := Lib.hid ⟨h, ⟨hh, rfl⟩, Nat.le_refl _, hok⟩
    clear hok hh HK
    go_wp2_with fail
    exact ⟨hb9, HO.out⟩
  case o2 =>
    refine growOneI_of (pre := []) rfl ?_
    simp only [fillL, Act.put]
    intro f lo hi w' hb hp
    have hq := H0.out.2.2.2.2.below hb H0.out.2.2.2.2.lt
    have x0 := hq.cell 0
    have x1 := hq.cell 1
    have x2 := hq.cell 2
    have x3 := hq.cell 3
    have x4 := hq.cell 4
    have x5 := hq.cell 5
    have x6 := hq.cell 6
    have x7 := hq.cell 7
    have x8 := hq.cell 8
    simp only [List.getElem?_toArray, List.getElem?_cons_succ, List.getElem?_cons_zero] at x0 x1 x2 x3 x4 x5 x6 x7 x8
    clear hq
    clear hp
    clear hb
    go_wp2_with fail
    exact ⟨Below.refl _ _, rfl⟩
  case o3 =>
    refine growOneI_of (pre := [2]) rfl ?_
    simp only [fillL, Region.dstOf, List.getElem?_toArray, List.getElem?_cons_zero, List.getElem?_cons_succ, Option.bind_some, Act.put]
    intro f lo hi w' hb hp
    have h2 : f 2 = .agg #[.int .i64 e2.op, .int .i64 e2.n, .int .i64 e2.m, .int .i64 e2.kind, .int .i64 e2.lit.k, .int .i64 e2.lit.n, .string e2.lit.s, .slice A' e2.args.length c', .slice R' e2.rels.length d'] := hp 2 (by decide)
    have HK := Lib.hid (HCf.out w' hb)
    clear hp
    rw [h2]
    clear h2
    clear hb
    go_wp2_with fail
    refine HK.out.mono ?_
    rintro x w9 ⟨h, hh, rfl, hb9, hok⟩
    have HO : Hid (∃ h' : HE, (h'.e = (cutE 420 e2).1 ∧ h.val = h'.val) ∧ (w9.heap.size ≤ w9.heap.size ∧ h'.ok w9 (fun b => w'.heap.size ≤ b ∧ b < w9.heap.size))) := Lib.hid ⟨h, ⟨hh, rfl⟩, Nat.le_refl _, hok⟩
    clear hok hh HK
    go_wp2_with fail
    exact ⟨hb9, HO.out⟩
  case o4 =>
    refine growOneI_of (pre := []) rfl ?_
    simp only [fillL, Act.put]
    intro f lo hi w' hb hp
    clear hp
    clear hb
    go_wp2_with fail
    exact ⟨al (Below.refl _ _) _, ⟨rfl, by simp⟩, Blk.new w' _ _⟩
  case o5 =>
    refine growOneI_of (pre := []) rfl ?_
    simp only [fillL, Act.put]
    intro f lo hi w' hb hp
    clear hp
    clear hb
    go_wp2_with fail
    exact ⟨al (Below.refl _ _) _, ⟨rfl, by simp⟩, Blk.new w' _ _⟩
  case fin =>
    intro f lo hi w' hb hd hv hx
    have e0 : f 0 = .agg #[.int .i64 e.op, .int .i64 e.n, .int .i64 e.m, .int .i64 e.kind, .int .i64 e.lit.k, .int .i64 e.lit.n, .string e.lit.s, .slice A e.args.length c, .slice R e.rels.length d] := hd 0 (by decide)
    obtain ⟨h1, ⟨hh1, e1⟩, hl1, ho1⟩ := hd 1 (by decide)
    have e2 : f 2 = .agg #[.int .i64 e2.op, .int .i64 e2.n, .int .i64 e2.m, .int .i64 e2.kind, .int .i64 e2.lit.k, .int .i64 e2.lit.n, .string e2.lit.s, .slice A' e2.args.length c', .slice R' e2.rels.length d'] := hd 2 (by decide)
    obtain ⟨h2, ⟨hh2, e3⟩, hl2, ho2⟩ := hd 3 (by decide)
    obtain ⟨⟨e4, hz4⟩, hB4⟩ := hd 4 (by decide)
    obtain ⟨⟨e5, hz5⟩, hB5⟩ := hd 5 (by decide)
    clear hd
    rw [show List.range 6 = [0, 1, 2, 3, 4, 5] from rfl]
    simp only [fillL, Region.dstOf, List.getElem?_toArray, List.getElem?_cons_zero, List.getElem?_cons_succ, Option.bind_some, Act.put]
    rw [e0, e1, e2, e3, e4, e5]
    clear e0 e1 e2 e3 e4 e5
    unfold HE.val E.val
    obtain ⟨g4, hg4⟩ : ∃ g, g = lo 4 := ⟨_, rfl⟩
    obtain ⟨g5, hg5⟩ : ∃ g, g = lo 5 := ⟨_, rfl⟩
    have q4 := hv 4 (by decide)
    have q5 := hv 5 (by decide)
    have q1 := hv 1 (by decide)
    have q3 := hv 3 (by decide)
    have r45 := hx 4 (by decide) 5 (by decide) (by decide)
    have r14 := hx 1 (by decide) 4 (by decide) (by decide)
    have r15 := hx 1 (by decide) 5 (by decide) (by decide)
    have r34 := hx 3 (by decide) 4 (by decide) (by decide)
    have r35 := hx 3 (by decide) 5 (by decide) (by decide)
    rw [← hg4] at hB4 hz4 q4 r14 r34 r45 ⊢
    rw [← hg5] at hB5 hz5 q5 r15 r35 r45 ⊢
    have hne : g4 ≠ g5 := by omega
    have hne2 : g5 ≠ g4 := by omega
    have hb4 := hB4.lt
    have hb5 := hB5.lt
    have hs0 := H0.out.2.2.1.size
    have hW9 : Below w.heap.size w (set9 (set9 w' g4 (.int .i64 h1.e.op) (.int .i64 h1.e.n) (.int .i64 h1.e.m) (.int .i64 h1.e.kind) (.int .i64 h1.e.lit.k) (.int .i64 h1.e.lit.n) (.string h1.e.lit.s) (.slice h1.A h1.e.args.length h1.c) (.slice h1.R h1.e.rels.length h1.d)) g5 (.int .i64 h2.e.op) (.int .i64 h2.e.n) (.int .i64 h2.e.m) (.int .i64 h2.e.kind) (.int .i64 h2.e.lit.k) (.int .i64 h2.e.lit.n) (.string h2.e.lit.s) (.slice h2.A h2.e.args.length h2.c) (.slice h2.R h2.e.rels.length h2.d)) := (H0.out.2.2.1.trans (hb.mono hs0)).trans ((st9' (B := w.heap.size) (by omega) (.int .i64 h1.e.op) (.int .i64 h1.e.n) (.int .i64 h1.e.m) (.int .i64 h1.e.kind) (.int .i64 h1.e.lit.k) (.int .i64 h1.e.lit.n) (.string h1.e.lit.s) (.slice h1.A h1.e.args.length h1.c) (.slice h1.R h1.e.rels.length h1.d)).trans (st9' (by omega) (.int .i64 h2.e.op) (.int .i64 h2.e.n) (.int .i64 h2.e.m) (.int .i64 h2.e.kind) (.int .i64 h2.e.lit.k) (.int .i64 h2.e.lit.n) (.string h2.e.lit.s) (.slice h2.A h2.e.args.length h2.c) (.slice h2.R h2.e.rels.length h2.d)))
    have hs9 : ((set9 (set9 w' g4 (.int .i64 h1.e.op) (.int .i64 h1.e.n) (.int .i64 h1.e.m) (.int .i64 h1.e.kind) (.int .i64 h1.e.lit.k) (.int .i64 h1.e.lit.n) (.string h1.e.lit.s) (.slice h1.A h1.e.args.length h1.c) (.slice h1.R h1.e.rels.length h1.d)) g5 (.int .i64 h2.e.op) (.int .i64 h2.e.n) (.int .i64 h2.e.m) (.int .i64 h2.e.kind) (.int .i64 h2.e.lit.k) (.int .i64 h2.e.lit.n) (.string h2.e.lit.s) (.slice h2.A h2.e.args.length h2.c) (.slice h2.R h2.e.rels.length h2.d))).heap.size = w'.heap.size := by rw [set9_size, set9_size]
    have B5 := Lib.hid ((hB4.set9_ (.int .i64 h1.e.op) (.int .i64 h1.e.n) (.int .i64 h1.e.m) (.int .i64 h1.e.kind) (.int .i64 h1.e.lit.k) (.int .i64 h1.e.lit.n) (.string h1.e.lit.s) (.slice h1.A h1.e.args.length h1.c) (.slice h1.R h1.e.rels.length h1.d)).far9 hne (.int .i64 h2.e.op) (.int .i64 h2.e.n) (.int .i64 h2.e.m) (.int .i64 h2.e.kind) (.int .i64 h2.e.lit.k) (.int .i64 h2.e.lit.n) (.string h2.e.lit.s) (.slice h2.A h2.e.args.length h2.c) (.slice h2.R h2.e.rels.length h2.d))
    have B6 := Lib.hid ((hB5.far9 hne2 (.int .i64 h1.e.op) (.int .i64 h1.e.n) (.int .i64 h1.e.m) (.int .i64 h1.e.kind) (.int .i64 h1.e.lit.k) (.int .i64 h1.e.lit.n) (.string h1.e.lit.s) (.slice h1.A h1.e.args.length h1.c) (.slice h1.R h1.e.rels.length h1.d)).set9_ (.int .i64 h2.e.op) (.int .i64 h2.e.n) (.int .i64 h2.e.m) (.int .i64 h2.e.kind) (.int .i64 h2.e.lit.k) (.int .i64 h2.e.lit.n) (.string h2.e.lit.s) (.slice h2.A h2.e.args.length h2.c) (.slice h2.R h2.e.rels.length h2.d))
    have h19 : h1.ok (set9 (set9 w' g4 (.int .i64 h1.e.op) (.int .i64 h1.e.n) (.int .i64 h1.e.m) (.int .i64 h1.e.kind) (.int .i64 h1.e.lit.k) (.int .i64 h1.e.lit.n) (.string h1.e.lit.s) (.slice h1.A h1.e.args.length h1.c) (.slice h1.R h1.e.rels.length h1.d)) g5 (.int .i64 h2.e.op) (.int .i64 h2.e.n) (.int .i64 h2.e.m) (.int .i64 h2.e.kind) (.int .i64 h2.e.lit.k) (.int .i64 h2.e.lit.n) (.string h2.e.lit.s) (.slice h2.A h2.e.args.length h2.c) (.slice h2.R h2.e.rels.length h2.d)) (Lo ((set9 (set9 w' g4 (.int .i64 h1.e.op) (.int .i64 h1.e.n) (.int .i64 h1.e.m) (.int .i64 h1.e.kind) (.int .i64 h1.e.lit.k) (.int .i64 h1.e.lit.n) (.string h1.e.lit.s) (.slice h1.A h1.e.args.length h1.c) (.slice h1.R h1.e.rels.length h1.d)) g5 (.int .i64 h2.e.op) (.int .i64 h2.e.n) (.int .i64 h2.e.m) (.int .i64 h2.e.kind) (.int .i64 h2.e.lit.k) (.int .i64 h2.e.lit.n) (.string h2.e.lit.s) (.slice h2.A h2.e.args.length h2.c) (.slice h2.R h2.e.rels.length h2.d))).heap.size) := ho1.kept (fun b hb => (set9_far _ _ _ _ _ _ _ _ _ _ _ b (by have := hb.1; have := hb.2; omega)).trans (set9_far _ _ _ _ _ _ _ _ _ _ _ b (by have := hb.1; have := hb.2; omega))) fun b hb => by show b < _; rw [hs9]; have := hb.2; omega
    have E1 := Lib.hid (cut_has H0.out.1.1 hh1 h19)
    have h29 : h2.ok (set9 (set9 w' g4 (.int .i64 h1.e.op) (.int .i64 h1.e.n) (.int .i64 h1.e.m) (.int .i64 h1.e.kind) (.int .i64 h1.e.lit.k) (.int .i64 h1.e.lit.n) (.string h1.e.lit.s) (.slice h1.A h1.e.args.length h1.c) (.slice h1.R h1.e.rels.length h1.d)) g5 (.int .i64 h2.e.op) (.int .i64 h2.e.n) (.int .i64 h2.e.m) (.int .i64 h2.e.kind) (.int .i64 h2.e.lit.k) (.int .i64 h2.e.lit.n) (.string h2.e.lit.s) (.slice h2.A h2.e.args.length h2.c) (.slice h2.R h2.e.rels.length h2.d)) (Lo ((set9 (set9 w' g4 (.int .i64 h1.e.op) (.int .i64 h1.e.n) (.int .i64 h1.e.m) (.int .i64 h1.e.kind) (.int .i64 h1.e.lit.k) (.int .i64 h1.e.lit.n) (.string h1.e.lit.s) (.slice h1.A h1.e.args.length h1.c) (.slice h1.R h1.e.rels.length h1.d)) g5 (.int .i64 h2.e.op) (.int .i64 h2.e.n) (.int .i64 h2.e.m) (.int .i64 h2.e.kind) (.int .i64 h2.e.lit.k) (.int .i64 h2.e.lit.n) (.string h2.e.lit.s) (.slice h2.A h2.e.args.length h2.c) (.slice h2.R h2.e.rels.length h2.d))).heap.size) := ho2.kept (fun b hb => (set9_far _ _ _ _ _ _ _ _ _ _ _ b (by have := hb.1; have := hb.2; omega)).trans (set9_far _ _ _ _ _ _ _ _ _ _ _ b (by have := hb.1; have := hb.2; omega))) fun b hb => by show b < _; rw [hs9]; have := hb.2; omega
    have E2 := Lib.hid (cut_has H0.out.1.2 hh2 h29)
    have HGW := Lib.hid (And.intro (H0.out.2.1.1.thn hW9) (H0.out.2.1.2.thn hW9))
    have HB := Lib.hid hW9
    have f0 := hB4.frozen 0
    have d0 := hB4.cell 0
    have ff0 := hB5.frozen 0
    have dd0 := hB5.cell 0
    have f1 := hB4.frozen 1
    have d1 := hB4.cell 1
    have ff1 := hB5.frozen 1
    have dd1 := hB5.cell 1
    have f2 := hB4.frozen 2
    have d2 := hB4.cell 2
    have ff2 := hB5.frozen 2
    have dd2 := hB5.cell 2
    have f3 := hB4.frozen 3
    have d3 := hB4.cell 3
    have ff3 := hB5.frozen 3
    have dd3 := hB5.cell 3
    have f4 := hB4.frozen 4
    have d4 := hB4.cell 4
    have ff4 := hB5.frozen 4
    have dd4 := hB5.cell 4
    have f5 := hB4.frozen 5
    have d5 := hB4.cell 5
    have ff5 := hB5.frozen 5
    have dd5 := hB5.cell 5
    have f6 := hB4.frozen 6
    have d6 := hB4.cell 6
    have ff6 := hB5.frozen 6
    have dd6 := hB5.cell 6
    have f7 := hB4.frozen 7
    have d7 := hB4.cell 7
    have ff7 := hB5.frozen 7
    have dd7 := hB5.cell 7
    have f8 := hB4.frozen 8
    have d8 := hB4.cell 8
    have ff8 := hB5.frozen 8
    have dd8 := hB5.cell 8
    simp only [List.getElem?_toArray, List.getElem?_cons_succ, List.getElem?_cons_zero] at d0 d1 d2 d3 d4 d5 d6 d7 d8 dd0 dd1 dd2 dd3 dd4 dd5 dd6 dd7 dd8
    clear hs9 hW9 h19 h29 hh1 hh2 ho1 ho2 hl1 hl2 q4 q5 q1 q3 r45 r14 r15 r34 r35 hv hx hs0 hz4 hz5 hg4 hg5
    go_upto_region 2 with fail
    clear f0 d0 ff0 dd0 f1 d1 ff1 dd1 f2 d2 ff2 dd2 f3 d3 ff3 dd3 f4 d4 ff4 dd4 f5 d5 ff5 dd5 f6 d6 ff6 dd6 f7 d7 ff7 dd7 f8 d8 ff8 dd8
    change Code.wp _ _ _ _ (set9 (set9 w' g4 (.int .i64 h1.e.op) (.int .i64 h1.e.n) (.int .i64 h1.e.m) (.int .i64 h1.e.kind) (.int .i64 h1.e.lit.k) (.int .i64 h1.e.lit.n) (.string h1.e.lit.s) (.slice h1.A h1.e.args.length h1.c) (.slice h1.R h1.e.rels.length h1.d)) g5 (.int .i64 h2.e.op) (.int .i64 h2.e.n) (.int .i64 h2.e.m) (.int .i64 h2.e.kind) (.int .i64 h2.e.lit.k) (.int .i64 h2.e.lit.n) (.string h2.e.lit.s) (.slice h2.A h2.e.args.length h2.c) (.slice h2.R h2.e.rels.length h2.d))
    generalize (set9 (set9 w' g4 (.int .i64 h1.e.op) (.int .i64 h1.e.n) (.int .i64 h1.e.m) (.int .i64 h1.e.kind) (.int .i64 h1.e.lit.k) (.int .i64 h1.e.lit.n) (.string h1.e.lit.s) (.slice h1.A h1.e.args.length h1.c) (.slice h1.R h1.e.rels.length h1.d)) g5 (.int .i64 h2.e.op) (.int .i64 h2.e.n) (.int .i64 h2.e.m) (.int .i64 h2.e.kind) (.int .i64 h2.e.lit.k) (.int .i64 h2.e.lit.n) (.string h2.e.lit.s) (.slice h2.A h2.e.args.length h2.c) (.slice h2.R h2.e.rels.length h2.d)) = ww at *
    have HAw : Hid (∀ W, Below (ww).heap.size ww W → Calls Tryz.prog 13 #[] W fun x w2 => x = .returned (.bool true) ∧ Below W.heap.size W w2) := Lib.hid fun W hbW => awakeE_any W (HGW.out.1.thn hbW) (HGW.out.2.thn hbW)
    rcases Bool.eq_false_or_eq_true (formE h1.e) with hf1 | hf1
    · have hcaa : cksE [h1.e, h1.e] = 0 := by unfold cksE; simp [hf1]
      have hsaa : (formE h1.e && formE h1.e && sameF h1.e h1.e) = true := by rw [hf1, sameF_self]; rfl
      have HSaa := Lib.hid (show ∀ W, Below (ww).heap.size ww W → Calls Tryz.prog 27 #[.agg #[.int .i64 h1.e.op, .int .i64 h1.e.n, .int .i64 h1.e.m, .int .i64 h1.e.kind, .int .i64 h1.e.lit.k, .int .i64 h1.e.lit.n, .string h1.e.lit.s, .slice h1.A h1.e.args.length h1.c, .slice h1.R h1.e.rels.length h1.d], .agg #[.int .i64 h1.e.op, .int .i64 h1.e.n, .int .i64 h1.e.m, .int .i64 h1.e.kind, .int .i64 h1.e.lit.k, .int .i64 h1.e.lit.n, .string h1.e.lit.s, .slice h1.A h1.e.args.length h1.c, .slice h1.R h1.e.rels.length h1.d]] W fun x w2 => x = .returned (.tuple #[.bool true, .int .i64 0]) ∧ Below W.heap.size W w2 from fun W hbW => by
            have k := SameP_any h1.e h1.e h1.A h1.R h1.A h1.R h1.c h1.d h1.c h1.d W (HGW.out.2.thn hbW) (E1.out.1.below hbW) (E1.out.1.below hbW)
            rw [hsaa, hcaa] at k
            exact k)
      have HFa := Lib.hid (show ∀ W, Below (ww).heap.size ww W → Calls Tryz.prog 11 #[.agg #[.int .i64 h1.e.op, .int .i64 h1.e.n, .int .i64 h1.e.m, .int .i64 h1.e.kind, .int .i64 h1.e.lit.k, .int .i64 h1.e.lit.n, .string h1.e.lit.s, .slice h1.A h1.e.args.length h1.c, .slice h1.R h1.e.rels.length h1.d]] W fun x w2 => x = .returned (.bool true) ∧ Below W.heap.size W w2 from fun W hbW => by
            have k := Form_any h1.e h1.A h1.R h1.c h1.d W E1.out.1.n E1.out.1.f (E1.out.1.below hbW).a
            rw [hf1] at k
            exact k)
      rcases Bool.eq_false_or_eq_true (formE h2.e) with hf2 | hf2
      · have hcab : cksE [h1.e, h2.e] = 0 := by unfold cksE; simp [hf1, hf2]
        have HFb := Lib.hid (show ∀ W, Below (ww).heap.size ww W → Calls Tryz.prog 11 #[.agg #[.int .i64 h2.e.op, .int .i64 h2.e.n, .int .i64 h2.e.m, .int .i64 h2.e.kind, .int .i64 h2.e.lit.k, .int .i64 h2.e.lit.n, .string h2.e.lit.s, .slice h2.A h2.e.args.length h2.c, .slice h2.R h2.e.rels.length h2.d]] W fun x w2 => x = .returned (.bool true) ∧ Below W.heap.size W w2 from fun W hbW => by
            have k := Form_any h2.e h2.A h2.R h2.c h2.d W E2.out.1.n E2.out.1.f (E2.out.1.below hbW).a
            rw [hf2] at k
            exact k)
        have hse := sameF_E 24 h1.e h2.e (formE_iff.1 hf1).1 (formE_iff.1 hf2).1
        have hsab : ∀ q, sameF h1.e h2.e = q → (formE h1.e && formE h2.e && sameF h1.e h2.e) = q := fun q h => by rw [hf1, hf2, h]; rfl
        rcases Bool.eq_false_or_eq_true (sameF h1.e h2.e) with hq | hq
        · have HSab := Lib.hid (show ∀ W, Below (ww).heap.size ww W → Calls Tryz.prog 27 #[.agg #[.int .i64 h1.e.op, .int .i64 h1.e.n, .int .i64 h1.e.m, .int .i64 h1.e.kind, .int .i64 h1.e.lit.k, .int .i64 h1.e.lit.n, .string h1.e.lit.s, .slice h1.A h1.e.args.length h1.c, .slice h1.R h1.e.rels.length h1.d], .agg #[.int .i64 h2.e.op, .int .i64 h2.e.n, .int .i64 h2.e.m, .int .i64 h2.e.kind, .int .i64 h2.e.lit.k, .int .i64 h2.e.lit.n, .string h2.e.lit.s, .slice h2.A h2.e.args.length h2.c, .slice h2.R h2.e.rels.length h2.d]] W fun x w2 => x = .returned (.tuple #[.bool true, .int .i64 0]) ∧ Below W.heap.size W w2 from fun W hbW => by
            have k := SameP_any h1.e h2.e h1.A h1.R h2.A h2.R h1.c h1.d h2.c h2.d W (HGW.out.2.thn hbW) (E1.out.1.below hbW) (E2.out.1.below hbW)
            rw [hsab true hq, hcab] at k
            exact k)
          have HRS := Lib.hid (show ∀ W, Below (ww).heap.size ww W → Calls Tryz.prog 15 #[.agg #[.int .i64 h1.e.op, .int .i64 h1.e.n, .int .i64 h1.e.m, .int .i64 h1.e.kind, .int .i64 h1.e.lit.k, .int .i64 h1.e.lit.n, .string h1.e.lit.s, .slice h1.A h1.e.args.length h1.c, .slice h1.R h1.e.rels.length h1.d], .agg #[.int .i64 h2.e.op, .int .i64 h2.e.n, .int .i64 h2.e.m, .int .i64 h2.e.kind, .int .i64 h2.e.lit.k, .int .i64 h2.e.lit.n, .string h2.e.lit.s, .slice h2.A h2.e.args.length h2.c, .slice h2.R h2.e.rels.length h2.d]] W fun x w2 => x = .returned (.bool true) ∧ Below W.heap.size W w2 from fun W hbW => by
            have k := RSame_any 1000000 h1.e h2.e h1.A h1.R h1.c h1.d h2.A h2.R h2.c h2.d W E1.out.1.n (Nat.le_refl _) (E1.out.1.below hbW).a (E2.out.1.below hbW).a
            rw [← hse, hq] at k
            exact k)
          have HW : Hid (Below (ww).heap.size ww ww) := Lib.hid (Below.refl _ _)
          have hq := B5.out
          have x0 := hq.cell 0
          have x1 := hq.cell 1
          have x2 := hq.cell 2
          have x3 := hq.cell 3
          have x4 := hq.cell 4
          have x5 := hq.cell 5
          have x6 := hq.cell 6
          have x7 := hq.cell 7
          have x8 := hq.cell 8
          simp only [List.getElem?_toArray, List.getElem?_cons_succ, List.getElem?_cons_zero] at x0 x1 x2 x3 x4 x5 x6 x7 x8
          clear hq
          have hq := B6.out
          have y0 := hq.cell 0
          have y1 := hq.cell 1
          have y2 := hq.cell 2
          have y3 := hq.cell 3
          have y4 := hq.cell 4
          have y5 := hq.cell 5
          have y6 := hq.cell 6
          have y7 := hq.cell 7
          have y8 := hq.cell 8
          simp only [List.getElem?_toArray, List.getElem?_cons_succ, List.getElem?_cons_zero] at y0 y1 y2 y3 y4 y5 y6 y7 y8
          clear hq
          clear E1 E2 HGW hf1 hf2 hcaa hsaa hcab hse hsab hq
          go_wp2_with fail
          refine (HSab.out _ HW.out).mono ?_
          rintro x w21 ⟨rfl, hb2⟩
          replace HW := Lib.hid (thn HW.out hb2)
          clear hb2
          clear x0 x1 x2 x3 x4 x5 x6 x7 x8 y0 y1 y2 y3 y4 y5 y6 y7 y8
          have hq := B5.out.below HW.out B5.out.lt
          have x0 := hq.cell 0
          have x1 := hq.cell 1
          have x2 := hq.cell 2
          have x3 := hq.cell 3
          have x4 := hq.cell 4
          have x5 := hq.cell 5
          have x6 := hq.cell 6
          have x7 := hq.cell 7
          have x8 := hq.cell 8
          simp only [List.getElem?_toArray, List.getElem?_cons_succ, List.getElem?_cons_zero] at x0 x1 x2 x3 x4 x5 x6 x7 x8
          clear hq
          go_wp2_with fail
          refine (HSaa.out _ HW.out).mono ?_
          rintro x w22 ⟨rfl, hb2⟩
          replace HW := Lib.hid (thn HW.out hb2)
          clear hb2
          clear x0 x1 x2 x3 x4 x5 x6 x7 x8
          have hq := B5.out.below HW.out B5.out.lt
          have x0 := hq.cell 0
          have x1 := hq.cell 1
          have x2 := hq.cell 2
          have x3 := hq.cell 3
          have x4 := hq.cell 4
          have x5 := hq.cell 5
          have x6 := hq.cell 6
          have x7 := hq.cell 7
          have x8 := hq.cell 8
          simp only [List.getElem?_toArray, List.getElem?_cons_succ, List.getElem?_cons_zero] at x0 x1 x2 x3 x4 x5 x6 x7 x8
          clear hq
          go_wp2_with fail
          refine (HFa.out _ HW.out).mono ?_
          rintro x w23 ⟨rfl, hb2⟩
          replace HW := Lib.hid (thn HW.out hb2)
          clear hb2
          clear x0 x1 x2 x3 x4 x5 x6 x7 x8
          have hq := B6.out.below HW.out B6.out.lt
          have y0 := hq.cell 0
          have y1 := hq.cell 1
          have y2 := hq.cell 2
          have y3 := hq.cell 3
          have y4 := hq.cell 4
          have y5 := hq.cell 5
          have y6 := hq.cell 6
          have y7 := hq.cell 7
          have y8 := hq.cell 8
          simp only [List.getElem?_toArray, List.getElem?_cons_succ, List.getElem?_cons_zero] at y0 y1 y2 y3 y4 y5 y6 y7 y8
          clear hq
          go_wp2_with fail
          refine (HFb.out _ HW.out).mono ?_
          rintro x w24 ⟨rfl, hb2⟩
          replace HW := Lib.hid (thn HW.out hb2)
          clear hb2
          clear y0 y1 y2 y3 y4 y5 y6 y7 y8
          have hq := B5.out.below HW.out B5.out.lt
          have x0 := hq.cell 0
          have x1 := hq.cell 1
          have x2 := hq.cell 2
          have x3 := hq.cell 3
          have x4 := hq.cell 4
          have x5 := hq.cell 5
          have x6 := hq.cell 6
          have x7 := hq.cell 7
          have x8 := hq.cell 8
          simp only [List.getElem?_toArray, List.getElem?_cons_succ, List.getElem?_cons_zero] at x0 x1 x2 x3 x4 x5 x6 x7 x8
          clear hq
          have hq := B6.out.below HW.out B6.out.lt
          have y0 := hq.cell 0
          have y1 := hq.cell 1
          have y2 := hq.cell 2
          have y3 := hq.cell 3
          have y4 := hq.cell 4
          have y5 := hq.cell 5
          have y6 := hq.cell 6
          have y7 := hq.cell 7
          have y8 := hq.cell 8
          simp only [List.getElem?_toArray, List.getElem?_cons_succ, List.getElem?_cons_zero] at y0 y1 y2 y3 y4 y5 y6 y7 y8
          clear hq
          go_wp2_with fail
          refine (HRS.out _ HW.out).mono ?_
          rintro x w25 ⟨rfl, hb2⟩
          replace HW := Lib.hid (thn HW.out hb2)
          clear hb2
          clear x0 x1 x2 x3 x4 x5 x6 x7 x8 y0 y1 y2 y3 y4 y5 y6 y7 y8
          go_wp2_with fail
          refine (HAw.out _ HW.out).mono ?_
          rintro x w26 ⟨rfl, hb2⟩
          replace HW := Lib.hid (thn HW.out hb2)
          clear hb2
          go_wp2_with fail
          go_ret
          exact ⟨rfl, thn HB.out HW.out⟩
        · have HSab := Lib.hid (show ∀ W, Below (ww).heap.size ww W → Calls Tryz.prog 27 #[.agg #[.int .i64 h1.e.op, .int .i64 h1.e.n, .int .i64 h1.e.m, .int .i64 h1.e.kind, .int .i64 h1.e.lit.k, .int .i64 h1.e.lit.n, .string h1.e.lit.s, .slice h1.A h1.e.args.length h1.c, .slice h1.R h1.e.rels.length h1.d], .agg #[.int .i64 h2.e.op, .int .i64 h2.e.n, .int .i64 h2.e.m, .int .i64 h2.e.kind, .int .i64 h2.e.lit.k, .int .i64 h2.e.lit.n, .string h2.e.lit.s, .slice h2.A h2.e.args.length h2.c, .slice h2.R h2.e.rels.length h2.d]] W fun x w2 => x = .returned (.tuple #[.bool false, .int .i64 0]) ∧ Below W.heap.size W w2 from fun W hbW => by
            have k := SameP_any h1.e h2.e h1.A h1.R h2.A h2.R h1.c h1.d h2.c h2.d W (HGW.out.2.thn hbW) (E1.out.1.below hbW) (E2.out.1.below hbW)
            rw [hsab false hq, hcab] at k
            exact k)
          have HRS := Lib.hid (show ∀ W, Below (ww).heap.size ww W → Calls Tryz.prog 15 #[.agg #[.int .i64 h1.e.op, .int .i64 h1.e.n, .int .i64 h1.e.m, .int .i64 h1.e.kind, .int .i64 h1.e.lit.k, .int .i64 h1.e.lit.n, .string h1.e.lit.s, .slice h1.A h1.e.args.length h1.c, .slice h1.R h1.e.rels.length h1.d], .agg #[.int .i64 h2.e.op, .int .i64 h2.e.n, .int .i64 h2.e.m, .int .i64 h2.e.kind, .int .i64 h2.e.lit.k, .int .i64 h2.e.lit.n, .string h2.e.lit.s, .slice h2.A h2.e.args.length h2.c, .slice h2.R h2.e.rels.length h2.d]] W fun x w2 => x = .returned (.bool false) ∧ Below W.heap.size W w2 from fun W hbW => by
            have k := RSame_any 1000000 h1.e h2.e h1.A h1.R h1.c h1.d h2.A h2.R h2.c h2.d W E1.out.1.n (Nat.le_refl _) (E1.out.1.below hbW).a (E2.out.1.below hbW).a
            rw [← hse, hq] at k
            exact k)
          have HW : Hid (Below (ww).heap.size ww ww) := Lib.hid (Below.refl _ _)
          have hq := B5.out
          have x0 := hq.cell 0
          have x1 := hq.cell 1
          have x2 := hq.cell 2
          have x3 := hq.cell 3
          have x4 := hq.cell 4
          have x5 := hq.cell 5
          have x6 := hq.cell 6
          have x7 := hq.cell 7
          have x8 := hq.cell 8
          simp only [List.getElem?_toArray, List.getElem?_cons_succ, List.getElem?_cons_zero] at x0 x1 x2 x3 x4 x5 x6 x7 x8
          clear hq
          have hq := B6.out
          have y0 := hq.cell 0
          have y1 := hq.cell 1
          have y2 := hq.cell 2
          have y3 := hq.cell 3
          have y4 := hq.cell 4
          have y5 := hq.cell 5
          have y6 := hq.cell 6
          have y7 := hq.cell 7
          have y8 := hq.cell 8
          simp only [List.getElem?_toArray, List.getElem?_cons_succ, List.getElem?_cons_zero] at y0 y1 y2 y3 y4 y5 y6 y7 y8
          clear hq
          clear E1 E2 HGW hf1 hf2 hcaa hsaa hcab hse hsab hq
          go_wp2_with fail
          refine (HSab.out _ HW.out).mono ?_
          rintro x w27 ⟨rfl, hb2⟩
          replace HW := Lib.hid (thn HW.out hb2)
          clear hb2
          clear x0 x1 x2 x3 x4 x5 x6 x7 x8 y0 y1 y2 y3 y4 y5 y6 y7 y8
          have hq := B5.out.below HW.out B5.out.lt
          have x0 := hq.cell 0
          have x1 := hq.cell 1
          have x2 := hq.cell 2
          have x3 := hq.cell 3
          have x4 := hq.cell 4
          have x5 := hq.cell 5
          have x6 := hq.cell 6
          have x7 := hq.cell 7
          have x8 := hq.cell 8
          simp only [List.getElem?_toArray, List.getElem?_cons_succ, List.getElem?_cons_zero] at x0 x1 x2 x3 x4 x5 x6 x7 x8
          clear hq
          go_wp2_with fail
          refine (HSaa.out _ HW.out).mono ?_
          rintro x w28 ⟨rfl, hb2⟩
          replace HW := Lib.hid (thn HW.out hb2)
          clear hb2
          clear x0 x1 x2 x3 x4 x5 x6 x7 x8
          have hq := B5.out.below HW.out B5.out.lt
          have x0 := hq.cell 0
          have x1 := hq.cell 1
          have x2 := hq.cell 2
          have x3 := hq.cell 3
          have x4 := hq.cell 4
          have x5 := hq.cell 5
          have x6 := hq.cell 6
          have x7 := hq.cell 7
          have x8 := hq.cell 8
          simp only [List.getElem?_toArray, List.getElem?_cons_succ, List.getElem?_cons_zero] at x0 x1 x2 x3 x4 x5 x6 x7 x8
          clear hq
          go_wp2_with fail
          refine (HFa.out _ HW.out).mono ?_
          rintro x w29 ⟨rfl, hb2⟩
          replace HW := Lib.hid (thn HW.out hb2)
          clear hb2
          clear x0 x1 x2 x3 x4 x5 x6 x7 x8
          have hq := B6.out.below HW.out B6.out.lt
          have y0 := hq.cell 0
          have y1 := hq.cell 1
          have y2 := hq.cell 2
          have y3 := hq.cell 3
          have y4 := hq.cell 4
          have y5 := hq.cell 5
          have y6 := hq.cell 6
          have y7 := hq.cell 7
          have y8 := hq.cell 8
          simp only [List.getElem?_toArray, List.getElem?_cons_succ, List.getElem?_cons_zero] at y0 y1 y2 y3 y4 y5 y6 y7 y8
          clear hq
          go_wp2_with fail
          refine (HFb.out _ HW.out).mono ?_
          rintro x w30 ⟨rfl, hb2⟩
          replace HW := Lib.hid (thn HW.out hb2)
          clear hb2
          clear y0 y1 y2 y3 y4 y5 y6 y7 y8
          have hq := B5.out.below HW.out B5.out.lt
          have x0 := hq.cell 0
          have x1 := hq.cell 1
          have x2 := hq.cell 2
          have x3 := hq.cell 3
          have x4 := hq.cell 4
          have x5 := hq.cell 5
          have x6 := hq.cell 6
          have x7 := hq.cell 7
          have x8 := hq.cell 8
          simp only [List.getElem?_toArray, List.getElem?_cons_succ, List.getElem?_cons_zero] at x0 x1 x2 x3 x4 x5 x6 x7 x8
          clear hq
          have hq := B6.out.below HW.out B6.out.lt
          have y0 := hq.cell 0
          have y1 := hq.cell 1
          have y2 := hq.cell 2
          have y3 := hq.cell 3
          have y4 := hq.cell 4
          have y5 := hq.cell 5
          have y6 := hq.cell 6
          have y7 := hq.cell 7
          have y8 := hq.cell 8
          simp only [List.getElem?_toArray, List.getElem?_cons_succ, List.getElem?_cons_zero] at y0 y1 y2 y3 y4 y5 y6 y7 y8
          clear hq
          go_wp2_with fail
          refine (HRS.out _ HW.out).mono ?_
          rintro x w31 ⟨rfl, hb2⟩
          replace HW := Lib.hid (thn HW.out hb2)
          clear hb2
          clear x0 x1 x2 x3 x4 x5 x6 x7 x8 y0 y1 y2 y3 y4 y5 y6 y7 y8
          go_wp2_with fail
          refine (HAw.out _ HW.out).mono ?_
          rintro x w32 ⟨rfl, hb2⟩
          replace HW := Lib.hid (thn HW.out hb2)
          clear hb2
          go_wp2_with fail
          go_ret
          exact ⟨rfl, thn HB.out HW.out⟩
      · have hcab : cksE [h1.e, h2.e] = 30 := by unfold cksE; simp [hf1, hf2]
        have hsab : (formE h1.e && formE h2.e && sameF h1.e h2.e) = false := by rw [hf1, hf2]; rfl
        have HSab := Lib.hid (show ∀ W, Below (ww).heap.size ww W → Calls Tryz.prog 27 #[.agg #[.int .i64 h1.e.op, .int .i64 h1.e.n, .int .i64 h1.e.m, .int .i64 h1.e.kind, .int .i64 h1.e.lit.k, .int .i64 h1.e.lit.n, .string h1.e.lit.s, .slice h1.A h1.e.args.length h1.c, .slice h1.R h1.e.rels.length h1.d], .agg #[.int .i64 h2.e.op, .int .i64 h2.e.n, .int .i64 h2.e.m, .int .i64 h2.e.kind, .int .i64 h2.e.lit.k, .int .i64 h2.e.lit.n, .string h2.e.lit.s, .slice h2.A h2.e.args.length h2.c, .slice h2.R h2.e.rels.length h2.d]] W fun x w2 => x = .returned (.tuple #[.bool false, .int .i64 30]) ∧ Below W.heap.size W w2 from fun W hbW => by
            have k := SameP_any h1.e h2.e h1.A h1.R h2.A h2.R h1.c h1.d h2.c h2.d W (HGW.out.2.thn hbW) (E1.out.1.below hbW) (E2.out.1.below hbW)
            rw [hsab, hcab] at k
            exact k)
        have HFb := Lib.hid (show ∀ W, Below (ww).heap.size ww W → Calls Tryz.prog 11 #[.agg #[.int .i64 h2.e.op, .int .i64 h2.e.n, .int .i64 h2.e.m, .int .i64 h2.e.kind, .int .i64 h2.e.lit.k, .int .i64 h2.e.lit.n, .string h2.e.lit.s, .slice h2.A h2.e.args.length h2.c, .slice h2.R h2.e.rels.length h2.d]] W fun x w2 => x = .returned (.bool false) ∧ Below W.heap.size W w2 from fun W hbW => by
            have k := Form_any h2.e h2.A h2.R h2.c h2.d W E2.out.1.n E2.out.1.f (E2.out.1.below hbW).a
            rw [hf2] at k
            exact k)
        have HW : Hid (Below (ww).heap.size ww ww) := Lib.hid (Below.refl _ _)
        have hq := B5.out
        have x0 := hq.cell 0
        have x1 := hq.cell 1
        have x2 := hq.cell 2
        have x3 := hq.cell 3
        have x4 := hq.cell 4
        have x5 := hq.cell 5
        have x6 := hq.cell 6
        have x7 := hq.cell 7
        have x8 := hq.cell 8
        simp only [List.getElem?_toArray, List.getElem?_cons_succ, List.getElem?_cons_zero] at x0 x1 x2 x3 x4 x5 x6 x7 x8
        clear hq
        have hq := B6.out
        have y0 := hq.cell 0
        have y1 := hq.cell 1
        have y2 := hq.cell 2
        have y3 := hq.cell 3
        have y4 := hq.cell 4
        have y5 := hq.cell 5
        have y6 := hq.cell 6
        have y7 := hq.cell 7
        have y8 := hq.cell 8
        simp only [List.getElem?_toArray, List.getElem?_cons_succ, List.getElem?_cons_zero] at y0 y1 y2 y3 y4 y5 y6 y7 y8
        clear hq
        clear E1 E2 HGW hf1 hf2 hcaa hsaa hcab hsab
        go_wp2_with fail
        refine (HSab.out _ HW.out).mono ?_
        rintro x w33 ⟨rfl, hb2⟩
        replace HW := Lib.hid (thn HW.out hb2)
        clear hb2
        clear x0 x1 x2 x3 x4 x5 x6 x7 x8 y0 y1 y2 y3 y4 y5 y6 y7 y8
        have hq := B5.out.below HW.out B5.out.lt
        have x0 := hq.cell 0
        have x1 := hq.cell 1
        have x2 := hq.cell 2
        have x3 := hq.cell 3
        have x4 := hq.cell 4
        have x5 := hq.cell 5
        have x6 := hq.cell 6
        have x7 := hq.cell 7
        have x8 := hq.cell 8
        simp only [List.getElem?_toArray, List.getElem?_cons_succ, List.getElem?_cons_zero] at x0 x1 x2 x3 x4 x5 x6 x7 x8
        clear hq
        go_wp2_with fail
        refine (HSaa.out _ HW.out).mono ?_
        rintro x w34 ⟨rfl, hb2⟩
        replace HW := Lib.hid (thn HW.out hb2)
        clear hb2
        clear x0 x1 x2 x3 x4 x5 x6 x7 x8
        have hq := B5.out.below HW.out B5.out.lt
        have x0 := hq.cell 0
        have x1 := hq.cell 1
        have x2 := hq.cell 2
        have x3 := hq.cell 3
        have x4 := hq.cell 4
        have x5 := hq.cell 5
        have x6 := hq.cell 6
        have x7 := hq.cell 7
        have x8 := hq.cell 8
        simp only [List.getElem?_toArray, List.getElem?_cons_succ, List.getElem?_cons_zero] at x0 x1 x2 x3 x4 x5 x6 x7 x8
        clear hq
        go_wp2_with fail
        refine (HFa.out _ HW.out).mono ?_
        rintro x w35 ⟨rfl, hb2⟩
        replace HW := Lib.hid (thn HW.out hb2)
        clear hb2
        clear x0 x1 x2 x3 x4 x5 x6 x7 x8
        have hq := B6.out.below HW.out B6.out.lt
        have y0 := hq.cell 0
        have y1 := hq.cell 1
        have y2 := hq.cell 2
        have y3 := hq.cell 3
        have y4 := hq.cell 4
        have y5 := hq.cell 5
        have y6 := hq.cell 6
        have y7 := hq.cell 7
        have y8 := hq.cell 8
        simp only [List.getElem?_toArray, List.getElem?_cons_succ, List.getElem?_cons_zero] at y0 y1 y2 y3 y4 y5 y6 y7 y8
        clear hq
        go_wp2_with fail
        refine (HFb.out _ HW.out).mono ?_
        rintro x w36 ⟨rfl, hb2⟩
        replace HW := Lib.hid (thn HW.out hb2)
        clear hb2
        clear y0 y1 y2 y3 y4 y5 y6 y7 y8
        go_wp2_with fail
        refine (HAw.out _ HW.out).mono ?_
        rintro x w37 ⟨rfl, hb2⟩
        replace HW := Lib.hid (thn HW.out hb2)
        clear hb2
        go_wp2_with fail
        go_ret
        exact ⟨rfl, thn HB.out HW.out⟩
    · have hcaa : cksE [h1.e, h1.e] = 30 := by unfold cksE; simp [hf1]
      have hcab : cksE [h1.e, h2.e] = 30 := by unfold cksE; simp [hf1]
      have hsaa : (formE h1.e && formE h1.e && sameF h1.e h1.e) = false := by rw [hf1]; rfl
      have hsab : (formE h1.e && formE h2.e && sameF h1.e h2.e) = false := by rw [hf1]; rfl
      have HSaa := Lib.hid (show ∀ W, Below (ww).heap.size ww W → Calls Tryz.prog 27 #[.agg #[.int .i64 h1.e.op, .int .i64 h1.e.n, .int .i64 h1.e.m, .int .i64 h1.e.kind, .int .i64 h1.e.lit.k, .int .i64 h1.e.lit.n, .string h1.e.lit.s, .slice h1.A h1.e.args.length h1.c, .slice h1.R h1.e.rels.length h1.d], .agg #[.int .i64 h1.e.op, .int .i64 h1.e.n, .int .i64 h1.e.m, .int .i64 h1.e.kind, .int .i64 h1.e.lit.k, .int .i64 h1.e.lit.n, .string h1.e.lit.s, .slice h1.A h1.e.args.length h1.c, .slice h1.R h1.e.rels.length h1.d]] W fun x w2 => x = .returned (.tuple #[.bool false, .int .i64 30]) ∧ Below W.heap.size W w2 from fun W hbW => by
            have k := SameP_any h1.e h1.e h1.A h1.R h1.A h1.R h1.c h1.d h1.c h1.d W (HGW.out.2.thn hbW) (E1.out.1.below hbW) (E1.out.1.below hbW)
            rw [hsaa, hcaa] at k
            exact k)
      have HSab := Lib.hid (show ∀ W, Below (ww).heap.size ww W → Calls Tryz.prog 27 #[.agg #[.int .i64 h1.e.op, .int .i64 h1.e.n, .int .i64 h1.e.m, .int .i64 h1.e.kind, .int .i64 h1.e.lit.k, .int .i64 h1.e.lit.n, .string h1.e.lit.s, .slice h1.A h1.e.args.length h1.c, .slice h1.R h1.e.rels.length h1.d], .agg #[.int .i64 h2.e.op, .int .i64 h2.e.n, .int .i64 h2.e.m, .int .i64 h2.e.kind, .int .i64 h2.e.lit.k, .int .i64 h2.e.lit.n, .string h2.e.lit.s, .slice h2.A h2.e.args.length h2.c, .slice h2.R h2.e.rels.length h2.d]] W fun x w2 => x = .returned (.tuple #[.bool false, .int .i64 30]) ∧ Below W.heap.size W w2 from fun W hbW => by
            have k := SameP_any h1.e h2.e h1.A h1.R h2.A h2.R h1.c h1.d h2.c h2.d W (HGW.out.2.thn hbW) (E1.out.1.below hbW) (E2.out.1.below hbW)
            rw [hsab, hcab] at k
            exact k)
      have HFa := Lib.hid (show ∀ W, Below (ww).heap.size ww W → Calls Tryz.prog 11 #[.agg #[.int .i64 h1.e.op, .int .i64 h1.e.n, .int .i64 h1.e.m, .int .i64 h1.e.kind, .int .i64 h1.e.lit.k, .int .i64 h1.e.lit.n, .string h1.e.lit.s, .slice h1.A h1.e.args.length h1.c, .slice h1.R h1.e.rels.length h1.d]] W fun x w2 => x = .returned (.bool false) ∧ Below W.heap.size W w2 from fun W hbW => by
            have k := Form_any h1.e h1.A h1.R h1.c h1.d W E1.out.1.n E1.out.1.f (E1.out.1.below hbW).a
            rw [hf1] at k
            exact k)
      have HW : Hid (Below (ww).heap.size ww ww) := Lib.hid (Below.refl _ _)
      have hq := B5.out
      have x0 := hq.cell 0
      have x1 := hq.cell 1
      have x2 := hq.cell 2
      have x3 := hq.cell 3
      have x4 := hq.cell 4
      have x5 := hq.cell 5
      have x6 := hq.cell 6
      have x7 := hq.cell 7
      have x8 := hq.cell 8
      simp only [List.getElem?_toArray, List.getElem?_cons_succ, List.getElem?_cons_zero] at x0 x1 x2 x3 x4 x5 x6 x7 x8
      clear hq
      have hq := B6.out
      have y0 := hq.cell 0
      have y1 := hq.cell 1
      have y2 := hq.cell 2
      have y3 := hq.cell 3
      have y4 := hq.cell 4
      have y5 := hq.cell 5
      have y6 := hq.cell 6
      have y7 := hq.cell 7
      have y8 := hq.cell 8
      simp only [List.getElem?_toArray, List.getElem?_cons_succ, List.getElem?_cons_zero] at y0 y1 y2 y3 y4 y5 y6 y7 y8
      clear hq
      clear E1 E2 HGW hf1 hcaa hcab hsaa hsab
      go_wp2_with fail
      refine (HSab.out _ HW.out).mono ?_
      rintro x w38 ⟨rfl, hb2⟩
      replace HW := Lib.hid (thn HW.out hb2)
      clear hb2
      clear x0 x1 x2 x3 x4 x5 x6 x7 x8 y0 y1 y2 y3 y4 y5 y6 y7 y8
      have hq := B5.out.below HW.out B5.out.lt
      have x0 := hq.cell 0
      have x1 := hq.cell 1
      have x2 := hq.cell 2
      have x3 := hq.cell 3
      have x4 := hq.cell 4
      have x5 := hq.cell 5
      have x6 := hq.cell 6
      have x7 := hq.cell 7
      have x8 := hq.cell 8
      simp only [List.getElem?_toArray, List.getElem?_cons_succ, List.getElem?_cons_zero] at x0 x1 x2 x3 x4 x5 x6 x7 x8
      clear hq
      go_wp2_with fail
      refine (HSaa.out _ HW.out).mono ?_
      rintro x w39 ⟨rfl, hb2⟩
      replace HW := Lib.hid (thn HW.out hb2)
      clear hb2
      clear x0 x1 x2 x3 x4 x5 x6 x7 x8
      have hq := B5.out.below HW.out B5.out.lt
      have x0 := hq.cell 0
      have x1 := hq.cell 1
      have x2 := hq.cell 2
      have x3 := hq.cell 3
      have x4 := hq.cell 4
      have x5 := hq.cell 5
      have x6 := hq.cell 6
      have x7 := hq.cell 7
      have x8 := hq.cell 8
      simp only [List.getElem?_toArray, List.getElem?_cons_succ, List.getElem?_cons_zero] at x0 x1 x2 x3 x4 x5 x6 x7 x8
      clear hq
      go_wp2_with fail
      refine (HFa.out _ HW.out).mono ?_
      rintro x w40 ⟨rfl, hb2⟩
      replace HW := Lib.hid (thn HW.out hb2)
      clear hb2
      clear x0 x1 x2 x3 x4 x5 x6 x7 x8
      go_wp2_with fail
      refine (HAw.out _ HW.out).mono ?_
      rintro x w41 ⟨rfl, hb2⟩
      replace HW := Lib.hid (thn HW.out hb2)
      clear hb2
      go_wp2_with fail
      go_ret
      exact ⟨rfl, thn HB.out HW.out⟩
end Go.Proofs.YtcbcncaoabablaaGreatDoor
