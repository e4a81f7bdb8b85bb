/-
  AwM: CONTRACTS: the reference's Of, Col, Lit, the law's three; what the program says of the expressions that the law's awake holds.
  AwE: CONTRACT of the law's awake.
-/
import Derived.Test.YtdiehgfldndgbaaGreatDoorGA19
import Derived.Test.YtdiehgfldndgbaaGreatDoorGB24
import Derived.Test.YtdiehgfldndgbaaGreatDoorGA11
import Derived.Test.YtdiehgfldndgbaaGreatDoorGA01
import Derived.Test.YtdiehgfldndgbaaGreatDoorGA03
namespace Go.Proofs.YtdiehgfldndgbaaGreatDoor
open Go.RowKit Go.Deep

abbrev zz : V := ⟨0, 0, ⟨#[]⟩⟩
abbrev eC (n : Int) : E := .mk 1 n 0 0 zz [] []
abbrev eL (v : V) : E := .mk 3 0 0 v.k v [] []
abbrev eO (op : Int) (l : List E) : E := .mk op 0 0 0 zz l []
theorem RCol_any (n : Int) (w : World) : Calls Tryz.prog 43 #[.int .i64 n] w fun x w' => x = .returned (.agg #[.int .i64 1, .int .i64 n, .int .i64 0, .int .i64 0, .int .i64 0, .int .i64 0, .string ⟨#[]⟩, .slice none 0 0, .slice none 0 0]) ∧ Below w.heap.size w w' := by
  go_enter Tryz.func43, Tryz.ntmps43
  go_wp2_with fail
  exact bodyPost_ret (v := .agg #[.int .i64 1, .int .i64 n, .int .i64 0, .int .i64 0, .int .i64 0, .int .i64 0, .string ⟨#[]⟩, .slice none 0 0, .slice none 0 0]) (by simp [results, Tryz.results43, go_sem]) rfl ⟨rfl, al (Below.refl _ _) _⟩
theorem RLit_any (v : V) (w : World) : Calls Tryz.prog 51 #[.agg #[.int .i64 v.k, .int .i64 v.n, .string v.s]] w fun x w' => x = .returned (.agg #[.int .i64 3, .int .i64 0, .int .i64 0, .int .i64 v.k, .int .i64 v.k, .int .i64 v.n, .string v.s, .slice none 0 0, .slice none 0 0]) ∧ Below w.heap.size w w' := by
  go_enter Tryz.func51, Tryz.ntmps51
  go_wp2_with fail
  exact bodyPost_ret (v := .agg #[.int .i64 3, .int .i64 0, .int .i64 0, .int .i64 v.k, .int .i64 v.k, .int .i64 v.n, .string v.s, .slice none 0 0, .slice none 0 0]) (by simp [results, Tryz.results51, go_sem]) rfl ⟨rfl, al (al (Below.refl _ _) _) _⟩
theorem ROf_any (op : Int) (A : Option Addr) (n c : Nat) (w : World) : Calls Tryz.prog 42 #[.int .i64 op, .slice A n c] w fun x w' => x = .returned (.agg #[.int .i64 op, .int .i64 0, .int .i64 0, .int .i64 0, .int .i64 0, .int .i64 0, .string ⟨#[]⟩, .slice A n c, .slice none 0 0]) ∧ Below w.heap.size w w' := by
  go_enter Tryz.func42, Tryz.ntmps42
  go_wp2_with fail
  exact bodyPost_ret (v := .agg #[.int .i64 op, .int .i64 0, .int .i64 0, .int .i64 0, .int .i64 0, .int .i64 0, .string ⟨#[]⟩, .slice A n c, .slice none 0 0]) (by simp [results, Tryz.results42, go_sem]) rfl ⟨rfl, al (Below.refl _ _) _⟩
abbrev threeC : List Co := [(1, false), (1, true), (3, true)]
theorem three_any (w : World) : Calls Tryz.prog 54 #[] w fun x w' => x = .returned (.slice (some ⟨w.heap.size, 0, none⟩) 3 3) ∧ w' = w.alloc (.cells #[.int .i64 1, .bool false, .int .i64 1, .bool true, .int .i64 3, .bool true] 77) := by
  go_enter Tryz.func54, Tryz.ntmps54
  go_wp2_with fail
  go_ret
  exact ⟨rfl, rfl⟩
theorem three_reads {w : World} {g : Nat} {T : TypeId} (h : Blk w g T #[.int .i64 1, .bool false, .int .i64 1, .bool true, .int .i64 3, .bool true]) : KReads w w.heap.size (some ⟨g, 0, none⟩) threeC := fun _ =>
  ⟨g, 0, rfl, h.lt, fun i k hi => by
    match i, hi with
    | 0, hi => cases hi; exact ⟨h.cell 0, h.cell 1⟩
    | 1, hi => cases hi; exact ⟨h.cell 2, h.cell 3⟩
    | 2, hi => cases hi; exact ⟨h.cell 4, h.cell 5⟩⟩
abbrev rowA : List V := [⟨1, 5, ⟨#[]⟩⟩, zz, zz]
theorem row_reads {w : World} {g : Nat} {T : TypeId} (h : Blk w g T #[.int .i64 1, .int .i64 5, .string ⟨#[]⟩, .int .i64 0, .int .i64 0, .string ⟨#[]⟩, .int .i64 0, .int .i64 0, .string ⟨#[]⟩]) : VReads w w.heap.size (some ⟨g, 0, none⟩) rowA := fun _ =>
  ⟨g, 0, rfl, h.lt, fun i k hi => by
    match i, hi with
    | 0, hi => cases hi; exact ⟨h.cell 0, h.cell 1, h.cell 2⟩
    | 1, hi => cases hi; exact ⟨h.cell 3, h.cell 4, h.cell 5⟩
    | 2, hi => cases hi; exact ⟨h.cell 6, h.cell 7, h.cell 8⟩⟩
abbrev aw1 : E := eO 16 [eC 0, eL ⟨1, 3, ⟨#[]⟩⟩]
abbrev aw2 : E := eO 22 [eC 1]
abbrev aw3 : E := eO 21 [aw2]
abbrev awE : E := eO 19 [aw1, aw3]
abbrev awD : E := eO 7 [eL ⟨1, 7, ⟨#[]⟩⟩, eC 0]
abbrev awB : E := eO 4 [eC 0, eC 2]
theorem itoa_small (n : Nat) (h : n < 10) : Lib.itoa n = [UInt8.ofNat (48 + n)] := by
  unfold Lib.itoa
  rw [if_neg (by omega)]
  exact Lib.decDigits_one h
abbrev awText : List UInt8 := [97, 110, 100, 40, 103, 116, 40, 36, 48, 44, 32, 51, 41, 44, 32, 110, 111, 116, 40, 105, 115, 110, 117, 108, 108, 40, 36, 49, 41, 41, 41]
theorem awE_str : strE awE = awText := by
  have i0 : Lib.itoa 0 = [48] := itoa_small 0 (by decide)
  have i1 : Lib.itoa 1 = [49] := itoa_small 1 (by decide)
  have i3 : Lib.itoa 3 = [51] := itoa_small 3 (by decide)
  simp [strE, strL, leafB, joinS, wordL, wordsT, strB, i0, i1, i3]
theorem awE_form : formE awE = true := by decide +kernel
theorem awE_same : (formE awE && formE awE && sameF awE awE) = true := by decide +kernel
theorem awE_cks : cksE [awE, awE] = 0 := by decide +kernel
theorem awE_evl : evlV threeC rowA awE = ⟨2, 0, ⟨#[]⟩⟩ := by decide +kernel
theorem awE_evf : evlF threeC rowA awE = 0 := by decide +kernel
theorem awD_knr : kndR threeC awD = some (1, true) := by decide +kernel
theorem awD_knf : kndF threeC awD = 0 := by decide +kernel
theorem awB_knf : kndF threeC awB = 31 := by decide +kernel
end Go.Proofs.YtdiehgfldndgbaaGreatDoor
namespace Go.Proofs.YtdiehgfldndgbaaGreatDoor
open Go.RowKit Go.Deep

theorem awE_ehas {w : World} {A : Option Addr} (h : LOk w (Lo w.heap.size) A [aw1, aw3]) : EHas w awE A none :=
  ⟨by decide, by simp [fitX, fitXL, maxLen, ByteArray.size], h, fun h0 => absurd h0 (Nat.lt_irrefl 0)⟩
theorem awD_ehas {w : World} {A : Option Addr} (h : LOk w (Lo w.heap.size) A [eL ⟨1, 7, ⟨#[]⟩⟩, eC 0]) : EHas w awD A none :=
  ⟨by decide, by simp [fitX, fitXL, maxLen, ByteArray.size], h, fun h0 => absurd h0 (Nat.lt_irrefl 0)⟩
theorem awB_ehas {w : World} {A : Option Addr} (h : LOk w (Lo w.heap.size) A [eC 0, eC 2]) : EHas w awB A none :=
  ⟨by decide, by simp [fitX, fitXL, maxLen, ByteArray.size], h, fun h0 => absurd h0 (Nat.lt_irrefl 0)⟩
theorem awE_in : EIn awE := by simp [EIn, LIn, I64, maxLen, ByteArray.size]
theorem aw_String (A : Option Addr) (w : World) (hG : GE w) (hS : GS w) (h : LOk w (Lo w.heap.size) A [aw1, aw3]) :
    Calls Tryz.prog 32 #[.agg #[.int .i64 19, .int .i64 0, .int .i64 0, .int .i64 0, .int .i64 0, .int .i64 0, .string ⟨#[]⟩, .slice A 2 2, .slice none 0 0]] w fun x w' => x = .returned (.tuple #[.string ⟨#[97, 110, 100, 40, 103, 116, 40, 36, 48, 44, 32, 51, 41, 44, 32, 110, 111, 116, 40, 105, 115, 110, 117, 108, 108, 40, 36, 49, 41, 41, 41]⟩, .int .i64 0]) ∧ Below w.heap.size w w' := by
  have k := StringP_any awE A none 2 0 w ⟨hG.g, hS⟩ (awE_ehas h) awE_in
  have e1 : strS awE = ⟨#[97, 110, 100, 40, 103, 116, 40, 36, 48, 44, 32, 51, 41, 44, 32, 110, 111, 116, 40, 105, 115, 110, 117, 108, 108, 40, 36, 49, 41, 41, 41]⟩ := by unfold strS; rw [if_pos ⟨awE_form, by rw [awE_str]; decide⟩, awE_str]
  have e2 : strF awE = 0 := by unfold strF; rw [if_pos awE_form, if_pos (by rw [awE_str]; decide)]
  rw [e1, e2] at k
  exact k
theorem aw_Parse (w : World) (hG : GE w) (hS : GS w) :
    Calls Tryz.prog 27 #[.string ⟨#[97, 110, 100, 40, 103, 116, 40, 36, 48, 44, 32, 51, 41, 44, 32, 110, 111, 116, 40, 105, 115, 110, 117, 108, 108, 40, 36, 49, 41, 41, 41]⟩] w fun x w' => ∃ (A R : Option Addr) (c d : Nat), x = .returned (.tuple #[.agg #[.int .i64 19, .int .i64 0, .int .i64 0, .int .i64 0, .int .i64 0, .int .i64 0, .string ⟨#[]⟩, .slice A 2 c, .slice R 0 d], .int .i64 0]) ∧ Below w.heap.size w w' ∧ LOk w' (Lo w'.heap.size) A [aw1, aw3] := by
  have k := ParseE_yes awE w hG hS awE_in awE_form (by rw [awE_str]; decide)
  have e1 : (⟨(strE awE).toArray⟩ : ByteArray) = ⟨#[97, 110, 100, 40, 103, 116, 40, 36, 48, 44, 32, 51, 41, 44, 32, 110, 111, 116, 40, 105, 115, 110, 117, 108, 108, 40, 36, 49, 41, 41, 41]⟩ := by rw [awE_str]
  rw [e1] at k
  refine k.mono ?_
  rintro x w' ⟨⟨e, A, c, R, d⟩, he, rfl, hb, hok⟩
  change e = awE at he
  subst he
  exact ⟨A, R, c, d, rfl, hb, hok.1.kept (fun _ _ => rfl) fun b hb => hb.2⟩
theorem aw_Same (A A' R' : Option Addr) (c d : Nat) (w : World) (hS : GS w) (h : LOk w (Lo w.heap.size) A [aw1, aw3]) (h' : LOk w (Lo w.heap.size) A' [aw1, aw3]) :
    Calls Tryz.prog 53 #[.agg #[.int .i64 19, .int .i64 0, .int .i64 0, .int .i64 0, .int .i64 0, .int .i64 0, .string ⟨#[]⟩, .slice A 2 2, .slice none 0 0], .agg #[.int .i64 19, .int .i64 0, .int .i64 0, .int .i64 0, .int .i64 0, .int .i64 0, .string ⟨#[]⟩, .slice A' 2 c, .slice R' 0 d]] w fun x w' => x = .returned (.tuple #[.bool true, .int .i64 0]) ∧ Below w.heap.size w w' := by
  have k := SameP_any awE awE A none A' R' 2 0 c d w hS (awE_ehas h) ⟨(awE_ehas h').n, (awE_ehas h').f, (awE_ehas h').a, fun h0 => absurd h0 (Nat.lt_irrefl 0)⟩
  rw [awE_same, awE_cks] at k
  exact k
theorem aw_Eval (A : Option Addr) (gc gr : Nat) (w : World) (hS : GS w) (h : LOk w (Lo w.heap.size) A [aw1, aw3]) (hc : KReads w w.heap.size (some ⟨gc, 0, none⟩) threeC) (hr : VReads w w.heap.size (some ⟨gr, 0, none⟩) rowA) :
    Calls Tryz.prog 37 #[.agg #[.int .i64 19, .int .i64 0, .int .i64 0, .int .i64 0, .int .i64 0, .int .i64 0, .string ⟨#[]⟩, .slice A 2 2, .slice none 0 0], .slice (some ⟨gc, 0, none⟩) 3 3, .slice (some ⟨gr, 0, none⟩) 3 3] w fun x w' => x = .returned (.tuple #[.agg #[.int .i64 2, .int .i64 0, .string ⟨#[]⟩], .int .i64 0]) ∧ Below w.heap.size w w' := by
  have k := EvalP_any awE A none 2 0 threeC (some ⟨gc, 0, none⟩) 3 rowA (some ⟨gr, 0, none⟩) 3 w hS (awE_ehas h) hc (by decide) hr (fun ad e => by injection e with e; exact ⟨_, _, e.symm⟩) (by decide) (fun v hv => by
    have : v = ⟨1, 5, ⟨#[]⟩⟩ ∨ v = zz := by simpa using hv
    rcases this with rfl | rfl <;> simp [maxLen, ByteArray.size])
  rw [awE_evl, awE_evf] at k
  exact k
theorem aw_KindD (A : Option Addr) (gc : Nat) (w : World) (hS : GS w) (h : LOk w (Lo w.heap.size) A [eL ⟨1, 7, ⟨#[]⟩⟩, eC 0]) (hc : KReads w w.heap.size (some ⟨gc, 0, none⟩) threeC) :
    Calls Tryz.prog 39 #[.agg #[.int .i64 7, .int .i64 0, .int .i64 0, .int .i64 0, .int .i64 0, .int .i64 0, .string ⟨#[]⟩, .slice A 2 2, .slice none 0 0], .slice (some ⟨gc, 0, none⟩) 3 3] w fun x w' => x = .returned (.tuple #[.agg #[.int .i64 1, .bool true], .int .i64 0]) ∧ Below w.heap.size w w' := by
  have k := KindP_any awD A none 2 0 threeC (some ⟨gc, 0, none⟩) 3 w hS (awD_ehas h) hc (by decide)
  rw [awD_knr, awD_knf] at k
  exact k
theorem aw_KindB (A : Option Addr) (gc : Nat) (w : World) (hS : GS w) (h : LOk w (Lo w.heap.size) A [eC 0, eC 2]) (hc : KReads w w.heap.size (some ⟨gc, 0, none⟩) threeC) :
    Calls Tryz.prog 39 #[.agg #[.int .i64 4, .int .i64 0, .int .i64 0, .int .i64 0, .int .i64 0, .int .i64 0, .string ⟨#[]⟩, .slice A 2 2, .slice none 0 0], .slice (some ⟨gc, 0, none⟩) 3 3] w fun x w' => x = .returned (.tuple #[.agg #[.int .i64 0, .bool false], .int .i64 31]) ∧ Below w.heap.size w w' := by
  have k := KindP_any awB A none 2 0 threeC (some ⟨gc, 0, none⟩) 3 w hS (awB_ehas h) hc (by decide)
  have e : kndR threeC awB = none := by decide +kernel
  rw [e, awB_knf] at k
  exact k

set_option maxHeartbeats 8000000 in
set_option maxRecDepth 100000 in
theorem awakeE_any (w : World) (hG : GE w) (hS : GS w) :
    Calls Tryz.prog 17 #[] w fun e w' => e = .returned (.bool true) ∧ Below w.heap.size w w' := by
  have HG := Lib.hid (And.intro hG hS)
  have HB : Hid (Below w.heap.size w w) := Lib.hid (Below.refl _ _)
  clear hG hS
  go_enter Tryz.func17, Tryz.ntmps17
  go_wp2_with fail
  refine (RCol_any 0 _).mono ?_
  rintro x w1 ⟨rfl, hb⟩
  replace HG := Lib.hid (And.intro (HG.out.1.thn hb) (HG.out.2.thn hb))
  replace HB := Lib.hid (thn HB.out hb)
  clear hb
  go_wp2_with fail
  refine (rInt_any 3 _).mono ?_
  rintro x w2 ⟨rfl, hb⟩
  replace HG := Lib.hid (And.intro (HG.out.1.thn hb) (HG.out.2.thn hb))
  replace HB := Lib.hid (thn HB.out hb)
  clear hb
  go_wp2_with fail
  refine (RLit_any ⟨1, 3, ⟨#[]⟩⟩ _).mono ?_
  rintro x w3 ⟨rfl, hb⟩
  replace HG := Lib.hid (And.intro (HG.out.1.thn hb) (HG.out.2.thn hb))
  replace HB := Lib.hid (thn HB.out hb)
  clear hb
  go_wp2_with fail
  have hb := al (Below.refl w3.heap.size w3) (.cells #[.int .i64 1, .int .i64 0, .int .i64 0, .int .i64 0, .int .i64 0, .int .i64 0, .string ⟨#[]⟩, .slice none 0 0, .slice none 0 0, .int .i64 3, .int .i64 0, .int .i64 0, .int .i64 1, .int .i64 1, .int .i64 3, .string ⟨#[]⟩, .slice none 0 0, .slice none 0 0] 30)
  replace HG := Lib.hid (And.intro (HG.out.1.thn hb) (HG.out.2.thn hb))
  replace HB := Lib.hid (thn HB.out hb)
  clear hb
  have L1 := Lib.hid (show LOk (w3.alloc (.cells #[.int .i64 1, .int .i64 0, .int .i64 0, .int .i64 0, .int .i64 0, .int .i64 0, .string ⟨#[]⟩, .slice none 0 0, .slice none 0 0, .int .i64 3, .int .i64 0, .int .i64 0, .int .i64 1, .int .i64 1, .int .i64 3, .string ⟨#[]⟩, .slice none 0 0, .slice none 0 0] 30)) (Lo (w3.alloc (.cells #[.int .i64 1, .int .i64 0, .int .i64 0, .int .i64 0, .int .i64 0, .int .i64 0, .string ⟨#[]⟩, .slice none 0 0, .slice none 0 0, .int .i64 3, .int .i64 0, .int .i64 0, .int .i64 1, .int .i64 1, .int .i64 3, .string ⟨#[]⟩, .slice none 0 0, .slice none 0 0] 30)).heap.size) (some ⟨w3.heap.size, 0, none⟩) [(eC 0), (eL ⟨1, 3, ⟨#[]⟩⟩)] from LOk.two (e := (eC 0)) (f := (eL ⟨1, 3, ⟨#[]⟩⟩)) (Blk.new w3 30 #[.int .i64 1, .int .i64 0, .int .i64 0, .int .i64 0, .int .i64 0, .int .i64 0, .string ⟨#[]⟩, .slice none 0 0, .slice none 0 0, .int .i64 3, .int .i64 0, .int .i64 0, .int .i64 1, .int .i64 1, .int .i64 3, .string ⟨#[]⟩, .slice none 0 0, .slice none 0 0]) (Blk.new w3 30 #[.int .i64 1, .int .i64 0, .int .i64 0, .int .i64 0, .int .i64 0, .int .i64 0, .string ⟨#[]⟩, .slice none 0 0, .slice none 0 0, .int .i64 3, .int .i64 0, .int .i64 0, .int .i64 1, .int .i64 1, .int .i64 3, .string ⟨#[]⟩, .slice none 0 0, .slice none 0 0]).lt LOk.nil_ (fun h0 => absurd h0 (Nat.lt_irrefl 0)) LOk.nil_ (fun h0 => absurd h0 (Nat.lt_irrefl 0)))
  refine (ROf_any 16 _ 2 2 _).mono ?_
  rintro x w4 ⟨rfl, hb⟩
  replace HG := Lib.hid (And.intro (HG.out.1.thn hb) (HG.out.2.thn hb))
  replace HB := Lib.hid (thn HB.out hb)
  replace L1 := Lib.hid (L1.out.below hb hb.size)
  clear hb
  go_wp2_with fail
  refine (RCol_any 1 _).mono ?_
  rintro x w5 ⟨rfl, hb⟩
  replace HG := Lib.hid (And.intro (HG.out.1.thn hb) (HG.out.2.thn hb))
  replace HB := Lib.hid (thn HB.out hb)
  replace L1 := Lib.hid (L1.out.below hb hb.size)
  clear hb
  go_wp2_with fail
  have hb := al (Below.refl w5.heap.size w5) (.cells #[.int .i64 1, .int .i64 1, .int .i64 0, .int .i64 0, .int .i64 0, .int .i64 0, .string ⟨#[]⟩, .slice none 0 0, .slice none 0 0] 30)
  replace HG := Lib.hid (And.intro (HG.out.1.thn hb) (HG.out.2.thn hb))
  replace HB := Lib.hid (thn HB.out hb)
  replace L1 := Lib.hid (L1.out.below hb hb.size)
  clear hb
  have L2 := Lib.hid (show LOk (w5.alloc (.cells #[.int .i64 1, .int .i64 1, .int .i64 0, .int .i64 0, .int .i64 0, .int .i64 0, .string ⟨#[]⟩, .slice none 0 0, .slice none 0 0] 30)) (Lo (w5.alloc (.cells #[.int .i64 1, .int .i64 1, .int .i64 0, .int .i64 0, .int .i64 0, .int .i64 0, .string ⟨#[]⟩, .slice none 0 0, .slice none 0 0] 30)).heap.size) (some ⟨w5.heap.size, 0, none⟩) [(eC 1)] from LOk.one (e := (eC 1)) (Blk.new w5 30 #[.int .i64 1, .int .i64 1, .int .i64 0, .int .i64 0, .int .i64 0, .int .i64 0, .string ⟨#[]⟩, .slice none 0 0, .slice none 0 0]) (Blk.new w5 30 #[.int .i64 1, .int .i64 1, .int .i64 0, .int .i64 0, .int .i64 0, .int .i64 0, .string ⟨#[]⟩, .slice none 0 0, .slice none 0 0]).lt LOk.nil_ (fun h0 => absurd h0 (Nat.lt_irrefl 0)))
  refine (ROf_any 22 _ 1 1 _).mono ?_
  rintro x w6 ⟨rfl, hb⟩
  replace HG := Lib.hid (And.intro (HG.out.1.thn hb) (HG.out.2.thn hb))
  replace HB := Lib.hid (thn HB.out hb)
  replace L1 := Lib.hid (L1.out.below hb hb.size)
  replace L2 := Lib.hid (L2.out.below hb hb.size)
  clear hb
  go_wp2_with fail
  have hb := al (Below.refl w6.heap.size w6) (.cells #[.int .i64 22, .int .i64 0, .int .i64 0, .int .i64 0, .int .i64 0, .int .i64 0, .string ⟨#[]⟩, .slice (some ⟨w5.heap.size, 0, none⟩) 1 1, .slice none 0 0] 30)
  replace HG := Lib.hid (And.intro (HG.out.1.thn hb) (HG.out.2.thn hb))
  replace HB := Lib.hid (thn HB.out hb)
  replace L1 := Lib.hid (L1.out.below hb hb.size)
  replace L2 := Lib.hid (L2.out.below hb hb.size)
  clear hb
  have L3 := Lib.hid (show LOk (w6.alloc (.cells #[.int .i64 22, .int .i64 0, .int .i64 0, .int .i64 0, .int .i64 0, .int .i64 0, .string ⟨#[]⟩, .slice (some ⟨w5.heap.size, 0, none⟩) 1 1, .slice none 0 0] 30)) (Lo (w6.alloc (.cells #[.int .i64 22, .int .i64 0, .int .i64 0, .int .i64 0, .int .i64 0, .int .i64 0, .string ⟨#[]⟩, .slice (some ⟨w5.heap.size, 0, none⟩) 1 1, .slice none 0 0] 30)).heap.size) (some ⟨w6.heap.size, 0, none⟩) [(eO 22 [(eC 1)])] from LOk.one (e := (eO 22 [(eC 1)])) (Blk.new w6 30 #[.int .i64 22, .int .i64 0, .int .i64 0, .int .i64 0, .int .i64 0, .int .i64 0, .string ⟨#[]⟩, .slice (some ⟨w5.heap.size, 0, none⟩) 1 1, .slice none 0 0]) (Blk.new w6 30 #[.int .i64 22, .int .i64 0, .int .i64 0, .int .i64 0, .int .i64 0, .int .i64 0, .string ⟨#[]⟩, .slice (some ⟨w5.heap.size, 0, none⟩) 1 1, .slice none 0 0]).lt L2.out (fun h0 => absurd h0 (Nat.lt_irrefl 0)))
  clear L2
  refine (ROf_any 21 _ 1 1 _).mono ?_
  rintro x w7 ⟨rfl, hb⟩
  replace HG := Lib.hid (And.intro (HG.out.1.thn hb) (HG.out.2.thn hb))
  replace HB := Lib.hid (thn HB.out hb)
  replace L1 := Lib.hid (L1.out.below hb hb.size)
  replace L3 := Lib.hid (L3.out.below hb hb.size)
  clear hb
  go_wp2_with fail
  have hb := al (Below.refl w7.heap.size w7) (.cells #[.int .i64 16, .int .i64 0, .int .i64 0, .int .i64 0, .int .i64 0, .int .i64 0, .string ⟨#[]⟩, .slice (some ⟨w3.heap.size, 0, none⟩) 2 2, .slice none 0 0, .int .i64 21, .int .i64 0, .int .i64 0, .int .i64 0, .int .i64 0, .int .i64 0, .string ⟨#[]⟩, .slice (some ⟨w6.heap.size, 0, none⟩) 1 1, .slice none 0 0] 30)
  replace HG := Lib.hid (And.intro (HG.out.1.thn hb) (HG.out.2.thn hb))
  replace HB := Lib.hid (thn HB.out hb)
  replace L1 := Lib.hid (L1.out.below hb hb.size)
  replace L3 := Lib.hid (L3.out.below hb hb.size)
  clear hb
  have L4 := Lib.hid (show LOk (w7.alloc (.cells #[.int .i64 16, .int .i64 0, .int .i64 0, .int .i64 0, .int .i64 0, .int .i64 0, .string ⟨#[]⟩, .slice (some ⟨w3.heap.size, 0, none⟩) 2 2, .slice none 0 0, .int .i64 21, .int .i64 0, .int .i64 0, .int .i64 0, .int .i64 0, .int .i64 0, .string ⟨#[]⟩, .slice (some ⟨w6.heap.size, 0, none⟩) 1 1, .slice none 0 0] 30)) (Lo (w7.alloc (.cells #[.int .i64 16, .int .i64 0, .int .i64 0, .int .i64 0, .int .i64 0, .int .i64 0, .string ⟨#[]⟩, .slice (some ⟨w3.heap.size, 0, none⟩) 2 2, .slice none 0 0, .int .i64 21, .int .i64 0, .int .i64 0, .int .i64 0, .int .i64 0, .int .i64 0, .string ⟨#[]⟩, .slice (some ⟨w6.heap.size, 0, none⟩) 1 1, .slice none 0 0] 30)).heap.size) (some ⟨w7.heap.size, 0, none⟩) [(eO 16 [(eC 0), (eL ⟨1, 3, ⟨#[]⟩⟩)]), (eO 21 [(eO 22 [(eC 1)])])] from LOk.two (e := (eO 16 [(eC 0), (eL ⟨1, 3, ⟨#[]⟩⟩)])) (f := (eO 21 [(eO 22 [(eC 1)])])) (Blk.new w7 30 #[.int .i64 16, .int .i64 0, .int .i64 0, .int .i64 0, .int .i64 0, .int .i64 0, .string ⟨#[]⟩, .slice (some ⟨w3.heap.size, 0, none⟩) 2 2, .slice none 0 0, .int .i64 21, .int .i64 0, .int .i64 0, .int .i64 0, .int .i64 0, .int .i64 0, .string ⟨#[]⟩, .slice (some ⟨w6.heap.size, 0, none⟩) 1 1, .slice none 0 0]) (Blk.new w7 30 #[.int .i64 16, .int .i64 0, .int .i64 0, .int .i64 0, .int .i64 0, .int .i64 0, .string ⟨#[]⟩, .slice (some ⟨w3.heap.size, 0, none⟩) 2 2, .slice none 0 0, .int .i64 21, .int .i64 0, .int .i64 0, .int .i64 0, .int .i64 0, .int .i64 0, .string ⟨#[]⟩, .slice (some ⟨w6.heap.size, 0, none⟩) 1 1, .slice none 0 0]).lt L1.out (fun h0 => absurd h0 (Nat.lt_irrefl 0)) L3.out (fun h0 => absurd h0 (Nat.lt_irrefl 0)))
  clear L1
  clear L3
  refine (ROf_any 19 _ 2 2 _).mono ?_
  rintro x w8 ⟨rfl, hb⟩
  replace HG := Lib.hid (And.intro (HG.out.1.thn hb) (HG.out.2.thn hb))
  replace HB := Lib.hid (thn HB.out hb)
  replace L4 := Lib.hid (L4.out.below hb hb.size)
  clear hb
  go_wp2_with fail
  have hb := al (Below.refl w8.heap.size w8) (.cells #[.int .i64 19, .int .i64 0, .int .i64 0, .int .i64 0, .int .i64 0, .int .i64 0, .string ⟨#[]⟩, .slice (some ⟨w7.heap.size, 0, none⟩) 2 2, .slice none 0 0] 30)
  replace HG := Lib.hid (And.intro (HG.out.1.thn hb) (HG.out.2.thn hb))
  replace HB := Lib.hid (thn HB.out hb)
  replace L4 := Lib.hid (L4.out.below hb hb.size)
  clear hb
  have B1 := Lib.hid (Blk.new w8 30 #[.int .i64 19, .int .i64 0, .int .i64 0, .int .i64 0, .int .i64 0, .int .i64 0, .string ⟨#[]⟩, .slice (some ⟨w7.heap.size, 0, none⟩) 2 2, .slice none 0 0])
  -- String
  refine (aw_String (some ⟨w7.heap.size, 0, none⟩) _ HG.out.1 HG.out.2 L4.out).mono ?_
  rintro x w9 ⟨rfl, hb⟩
  replace HG := Lib.hid (And.intro (HG.out.1.thn hb) (HG.out.2.thn hb))
  replace HB := Lib.hid (thn HB.out hb)
  replace L4 := Lib.hid (L4.out.below hb hb.size)
  replace B1 := Lib.hid (B1.out.below hb B1.out.lt)
  clear hb
  go_wp2_with fail
  -- Parse
  refine (aw_Parse _ HG.out.1 HG.out.2).mono ?_
  rintro x w10 ⟨A2, R2, c2, d2, rfl, hb, hl⟩
  replace HG := Lib.hid (And.intro (HG.out.1.thn hb) (HG.out.2.thn hb))
  replace HB := Lib.hid (thn HB.out hb)
  replace L4 := Lib.hid (L4.out.below hb hb.size)
  replace B1 := Lib.hid (B1.out.below hb B1.out.lt)
  have LP := Lib.hid hl
  clear hb hl
  have hb := al (Below.refl w10.heap.size w10) (.cells #[.int .i64 19, .int .i64 0, .int .i64 0, .int .i64 0, .int .i64 0, .int .i64 0, .string ⟨#[]⟩, .slice A2 2 c2, .slice R2 0 d2] 30)
  replace HG := Lib.hid (And.intro (HG.out.1.thn hb) (HG.out.2.thn hb))
  replace HB := Lib.hid (thn HB.out hb)
  replace L4 := Lib.hid (L4.out.below hb hb.size)
  replace B1 := Lib.hid (B1.out.below hb B1.out.lt)
  replace LP := Lib.hid (LP.out.below hb hb.size)
  clear hb
  have B2 := Lib.hid (Blk.new w10 30 #[.int .i64 19, .int .i64 0, .int .i64 0, .int .i64 0, .int .i64 0, .int .i64 0, .string ⟨#[]⟩, .slice A2 2 c2, .slice R2 0 d2])
  have a0 := B1.out
  have x0 := a0.cell 0
  have x1 := a0.cell 1
  have x2 := a0.cell 2
  have x3 := a0.cell 3
  have x4 := a0.cell 4
  have x5 := a0.cell 5
  have x6 := a0.cell 6
  have x7 := a0.cell 7
  have x8 := a0.cell 8
  simp only [List.getElem?_toArray, List.getElem?_cons_succ, List.getElem?_cons_zero] at x0 x1 x2 x3 x4 x5 x6 x7 x8
  clear a0
  go_wp2_with fail
  clear x0 x1 x2 x3 x4 x5 x6 x7 x8
  -- Same
  refine (aw_Same (some ⟨w7.heap.size, 0, none⟩) A2 R2 c2 d2 _ HG.out.2 L4.out LP.out).mono ?_
  rintro x w11 ⟨rfl, hb⟩
  replace HG := Lib.hid (And.intro (HG.out.1.thn hb) (HG.out.2.thn hb))
  replace HB := Lib.hid (thn HB.out hb)
  replace L4 := Lib.hid (L4.out.below hb hb.size)
  replace B1 := Lib.hid (B1.out.below hb B1.out.lt)
  replace LP := Lib.hid (LP.out.below hb hb.size)
  replace B2 := Lib.hid (B2.out.below hb B2.out.lt)
  clear hb LP B2
  go_upto_region 5 with fail
  refine wp_region_growP (W := w11) 11 9 _ [[], [], [], [], [], [2, 3, 4], [0, 1, 5], [6], [7], [7], []] [10] (fun i u w => match i with | 0 => u = .agg #[.int .i64 19, .int .i64 0, .int .i64 0, .int .i64 0, .int .i64 0, .int .i64 0, .string ⟨#[]⟩, .slice (some ⟨w7.heap.size, 0, none⟩) 2 2, .slice none 0 0] | 1 => ∃ g, (u = .slice (some ⟨g, 0, none⟩) 3 3 ∧ w11.heap.size ≤ g) ∧ Blk w g 77 #[.int .i64 1, .bool false, .int .i64 1, .bool true, .int .i64 3, .bool true] | 2 => u = .agg #[.int .i64 1, .int .i64 5, .string ⟨#[]⟩] | 3 => u = .agg #[.int .i64 0, .int .i64 0, .string ⟨#[]⟩] | 4 => u = .agg #[.int .i64 0, .int .i64 0, .string ⟨#[]⟩] | 5 => ∃ g, (u = .slice (some ⟨g, 0, none⟩) 3 3 ∧ w11.heap.size ≤ g) ∧ Blk w g 27 #[.int .i64 1, .int .i64 5, .string ⟨#[]⟩, .int .i64 0, .int .i64 0, .string ⟨#[]⟩, .int .i64 0, .int .i64 0, .string ⟨#[]⟩] | 6 => u = .tuple #[.agg #[.int .i64 2, .int .i64 0, .string ⟨#[]⟩], .int .i64 0] | 7 => u = .tuple #[.agg #[.int .i64 2, .int .i64 0, .string ⟨#[]⟩], .int .i64 0] | 8 => u = .agg #[.int .i64 2, .int .i64 0, .string ⟨#[]⟩] | 9 => u = .int .i64 0 | _ => ∃ g, (u = .pointer (some ⟨g, 0, none⟩) ∧ w11.heap.size ≤ g) ∧ Blk w g 27 #[.int .i64 0, .int .i64 0, .string ⟨#[]⟩]) (by kernel_rfl) (by kernel_rfl)  rfl (by decide) ?hY ?hQ ?hD ⟨?o0, ?o1, ?o2, ?o3, ?o4, ?o5, ?o6, ?o7, ?o8, ?o9, ?o10, trivial⟩ ?fin
  case hY =>
    intro f w' hb hd
    have h7 : f 7 = .tuple #[.agg #[.int .i64 2, .int .i64 0, .string ⟨#[]⟩], .int .i64 0] := hd 7 (by decide) (by decide)
    clear hd
    refine ⟨.int .i64 0, .inl ⟨rfl, fun w0 => ?_⟩, rfl⟩
    rw [show (List.range 11).filter (fun i => i != 9) = [0, 1, 2, 3, 4, 5, 6, 7, 8, 10] from rfl]
    simp only [fillL, Region.dstOf, List.getElem?_toArray, List.getElem?_cons_zero, List.getElem?_cons_succ, Option.bind_some, Act.put]
    rw [h7]
    go_simp
    try rfl
  case hQ => exact fun _ _ _ _ h => h
  case hD =>
    intro i u w1 w2 hb hd
    split at hd <;> first | exact hd | exact hd.imp fun g hg => ⟨hg.1, hg.2.below hb hg.2.lt⟩
  case o0 =>
    refine growOne_of (pre := []) rfl ?_
    simp only [fillL, Act.put]
    intro f w' hb hp
    have hq := B1.out.below hb B1.out.lt
    have x0 := hq.cell 0
    have x1 := hq.cell 1
    have x2 := hq.cell 2
    have x3 := hq.cell 3
    have x4 := hq.cell 4
    have x5 := hq.cell 5
    have x6 := hq.cell 6
    have x7 := hq.cell 7
    have x8 := hq.cell 8
    simp only [List.getElem?_toArray, List.getElem?_cons_succ, List.getElem?_cons_zero] at x0 x1 x2 x3 x4 x5 x6 x7 x8
    clear hq
    clear hp
    clear hb
    go_wp2_with fail
    exact ⟨Below.refl _ _, rfl, fun h => by simp at h⟩
  case o1 =>
    refine growOne_of (pre := []) rfl ?_
    simp only [fillL, Act.put]
    intro f w' hb hp
    have hsz := hb.size
    have hT := three_any w'
    clear hp
    clear hb
    go_wp2_with fail
    refine hT.mono ?_
    rintro x w9 ⟨rfl, rfl⟩
    have HO : Hid (∃ g, (Value.slice (some ⟨w'.heap.size, 0, none⟩) 3 3 = .slice (some ⟨g, 0, none⟩) 3 3 ∧ w11.heap.size ≤ g) ∧ Blk (w'.alloc (.cells #[.int .i64 1, .bool false, .int .i64 1, .bool true, .int .i64 3, .bool true] 77)) g 77 #[.int .i64 1, .bool false, .int .i64 1, .bool true, .int .i64 3, .bool true]) := Lib.hid ⟨_, ⟨rfl, hsz⟩, Blk.new w' _ _⟩
    go_wp2_with fail
    exact ⟨al (Below.refl _ _) _, HO.out, fun h => by simp at h⟩
  case o2 =>
    refine growOne_of (pre := []) rfl ?_
    simp only [fillL, Act.put]
    intro f w' hb hp
    clear hp
    clear hb
    go_wp2_with fail
    refine (rInt_any 5 w').mono ?_
    rintro x w9 ⟨rfl, hb9⟩
    go_wp2_with fail
    exact ⟨hb9, rfl, fun h => by simp at h⟩
  case o3 =>
    refine growOne_of (pre := []) rfl ?_
    simp only [fillL, Act.put]
    intro f w' hb hp
    clear hp
    clear hb
    go_wp2_with fail
    refine (rNull_any w').mono ?_
    rintro x w9 ⟨rfl, hb9⟩
    go_wp2_with fail
    exact ⟨hb9, rfl, fun h => by simp at h⟩
  case o4 =>
    refine growOne_of (pre := []) rfl ?_
    simp only [fillL, Act.put]
    intro f w' hb hp
    clear hp
    clear hb
    go_wp2_with fail
    refine (rNull_any w').mono ?_
    rintro x w9 ⟨rfl, hb9⟩
    go_wp2_with fail
    exact ⟨hb9, rfl, fun h => by simp at h⟩
  case o5 =>
    refine growOne_of (pre := [2, 3, 4]) rfl ?_
    simp only [fillL, Region.dstOf, List.getElem?_toArray, List.getElem?_cons_zero, List.getElem?_cons_succ, Option.bind_some, Act.put]
    intro f w' hb hp
    have h2 : f 2 = .agg #[.int .i64 1, .int .i64 5, .string ⟨#[]⟩] := hp 2 (by decide)
    have h3 : f 3 = .agg #[.int .i64 0, .int .i64 0, .string ⟨#[]⟩] := hp 3 (by decide)
    have h4 : f 4 = .agg #[.int .i64 0, .int .i64 0, .string ⟨#[]⟩] := hp 4 (by decide)
    have hsz := hb.size
    clear hp
    rw [h2, h3, h4]
    clear h2 h3 h4
    clear hb
    go_wp2_with fail
    exact ⟨al (Below.refl _ _) _, ⟨_, ⟨rfl, hsz⟩, Blk.new w' _ _⟩, fun h => by simp at h⟩
  case o6 =>
    refine growOne_of (pre := [0, 1, 5]) rfl ?_
    simp only [fillL, Region.dstOf, List.getElem?_toArray, List.getElem?_cons_zero, List.getElem?_cons_succ, Option.bind_some, Act.put]
    intro f w' hb hp
    have h0 : f 0 = .agg #[.int .i64 19, .int .i64 0, .int .i64 0, .int .i64 0, .int .i64 0, .int .i64 0, .string ⟨#[]⟩, .slice (some ⟨w7.heap.size, 0, none⟩) 2 2, .slice none 0 0] := hp 0 (by decide)
    obtain ⟨g1, ⟨h1, hn1⟩, hB1⟩ := hp 1 (by decide)
    obtain ⟨g5, ⟨h5, hn5⟩, hB5⟩ := hp 5 (by decide)
    have HEv := Lib.hid (aw_Eval (some ⟨w7.heap.size, 0, none⟩) g1 g5 w' (HG.out.2.thn hb) (L4.out.below hb hb.size) (three_reads hB1) (row_reads hB5))
    clear hB1 hB5 hn1 hn5
    clear hp
    rw [h0, h1, h5]
    clear h0 h1 h5
    clear hb
    go_wp2_with fail
    refine HEv.out.mono ?_
    rintro x w9 ⟨rfl, hb9⟩
    go_wp2_with fail
    exact ⟨hb9, rfl, fun h => by simp at h⟩
  case o7 =>
    refine growOne_of (pre := [6]) rfl ?_
    simp only [fillL, Region.dstOf, List.getElem?_toArray, List.getElem?_cons_zero, List.getElem?_cons_succ, Option.bind_some, Act.put]
    intro f w' hb hp
    have h6 : f 6 = .tuple #[.agg #[.int .i64 2, .int .i64 0, .string ⟨#[]⟩], .int .i64 0] := hp 6 (by decide)
    clear hp
    rw [h6]
    clear h6
    clear hb
    go_wp2_with fail
    exact ⟨Below.refl _ _, rfl, fun h => by simp at h⟩
  case o8 =>
    refine growOne_of (pre := [7]) rfl ?_
    simp only [fillL, Region.dstOf, List.getElem?_toArray, List.getElem?_cons_zero, List.getElem?_cons_succ, Option.bind_some, Act.put]
    intro f w' hb hp
    have h7 : f 7 = .tuple #[.agg #[.int .i64 2, .int .i64 0, .string ⟨#[]⟩], .int .i64 0] := hp 7 (by decide)
    clear hp
    rw [h7]
    clear h7
    clear hb
    go_wp2_with fail
    exact ⟨Below.refl _ _, rfl, fun h => by simp at h⟩
  case o9 =>
    refine growOne_of (pre := [7]) rfl ?_
    simp only [fillL, Region.dstOf, List.getElem?_toArray, List.getElem?_cons_zero, List.getElem?_cons_succ, Option.bind_some, Act.put]
    intro f w' hb hp
    have h7 : f 7 = .tuple #[.agg #[.int .i64 2, .int .i64 0, .string ⟨#[]⟩], .int .i64 0] := hp 7 (by decide)
    clear hp
    rw [h7]
    clear h7
    clear hb
    go_wp2_with fail
    exact ⟨Below.refl _ _, rfl, fun h => by simp at h⟩
  case o10 =>
    refine growOne_of (pre := []) rfl ?_
    simp only [fillL, Act.put]
    intro f w' hb hp
    have hsz := hb.size
    clear hp
    clear hb
    go_wp2_with fail
    exact ⟨al (Below.refl _ _) _, ⟨_, ⟨rfl, hsz⟩, Blk.new w' _ _⟩, fun _ => ⟨_, rfl, Nat.le_refl _, by simp⟩⟩
  case fin =>
    intro f w' hb hd _
    have e0 : f 0 = .agg #[.int .i64 19, .int .i64 0, .int .i64 0, .int .i64 0, .int .i64 0, .int .i64 0, .string ⟨#[]⟩, .slice (some ⟨w7.heap.size, 0, none⟩) 2 2, .slice none 0 0] := hd 0 (by decide)
    obtain ⟨gc, ⟨e1, hnc⟩, hBc⟩ := hd 1 (by decide)
    have e2 : f 2 = .agg #[.int .i64 1, .int .i64 5, .string ⟨#[]⟩] := hd 2 (by decide)
    have e3 : f 3 = .agg #[.int .i64 0, .int .i64 0, .string ⟨#[]⟩] := hd 3 (by decide)
    have e4 : f 4 = .agg #[.int .i64 0, .int .i64 0, .string ⟨#[]⟩] := hd 4 (by decide)
    obtain ⟨gr, ⟨e5, hnr⟩, hBr⟩ := hd 5 (by decide)
    have e6 : f 6 = .tuple #[.agg #[.int .i64 2, .int .i64 0, .string ⟨#[]⟩], .int .i64 0] := hd 6 (by decide)
    have e7 : f 7 = .tuple #[.agg #[.int .i64 2, .int .i64 0, .string ⟨#[]⟩], .int .i64 0] := hd 7 (by decide)
    have e8 : f 8 = .agg #[.int .i64 2, .int .i64 0, .string ⟨#[]⟩] := hd 8 (by decide)
    have e9 : f 9 = .int .i64 0 := hd 9 (by decide)
    obtain ⟨g8, ⟨e10, hn8⟩, hB8⟩ := hd 10 (by decide)
    clear hd
    rw [show List.range 11 = [0, 1, 2, 3, 4, 5, 6, 7, 8, 9, 10] from rfl]
    simp only [fillL, Region.dstOf, List.getElem?_toArray, List.getElem?_cons_zero, List.getElem?_cons_succ, Option.bind_some, Act.put]
    rw [e0, e1, e2, e3, e4, e5, e6, e7, e8, e9, e10]
    clear e0 e1 e2 e3 e4 e5 e6 e7 e8 e9 e10
    obtain ⟨⟨s0, s1, s2⟩, q0, q1, q2⟩ := hB8.three
    have hl8 := hB8.lt
    have B8 := Lib.hid (hB8.three_set (.int .i64 2) (.int .i64 0) (.string ⟨#[]⟩))
    have hbb := (((hb.setCell (p := ⟨g8, 0, none⟩) hn8 (.int .i64 2)).setCell (p := ⟨g8, 1, none⟩) hn8 (.int .i64 0)).setCell (p := ⟨g8, 2, none⟩) hn8 (.string ⟨#[]⟩))
    clear hB8
    replace HG := Lib.hid (And.intro (HG.out.1.thn hbb) (HG.out.2.thn hbb))
    replace HB := Lib.hid (thn HB.out hbb)
    replace L4 := Lib.hid (L4.out.below hbb hbb.size)
    replace B1 := Lib.hid (B1.out.below hbb B1.out.lt)
    clear hb hBc hBr hbb
    go_wp2_with fail
    clear s0 s1 s2 q0 q1 q2 hl8
    refine (rInt_any 7 _).mono ?_
    rintro x w13 ⟨rfl, hb⟩
    replace HG := Lib.hid (And.intro (HG.out.1.thn hb) (HG.out.2.thn hb))
    replace HB := Lib.hid (thn HB.out hb)
    replace L4 := Lib.hid (L4.out.below hb hb.size)
    replace B1 := Lib.hid (B1.out.below hb B1.out.lt)
    replace B8 := Lib.hid (B8.out.below hb B8.out.lt)
    clear hb
    go_wp2_with fail
    refine (RLit_any ⟨1, 7, ⟨#[]⟩⟩ _).mono ?_
    rintro x w14 ⟨rfl, hb⟩
    replace HG := Lib.hid (And.intro (HG.out.1.thn hb) (HG.out.2.thn hb))
    replace HB := Lib.hid (thn HB.out hb)
    replace L4 := Lib.hid (L4.out.below hb hb.size)
    replace B1 := Lib.hid (B1.out.below hb B1.out.lt)
    replace B8 := Lib.hid (B8.out.below hb B8.out.lt)
    clear hb
    go_wp2_with fail
    refine (RCol_any 0 _).mono ?_
    rintro x w15 ⟨rfl, hb⟩
    replace HG := Lib.hid (And.intro (HG.out.1.thn hb) (HG.out.2.thn hb))
    replace HB := Lib.hid (thn HB.out hb)
    replace L4 := Lib.hid (L4.out.below hb hb.size)
    replace B1 := Lib.hid (B1.out.below hb B1.out.lt)
    replace B8 := Lib.hid (B8.out.below hb B8.out.lt)
    clear hb
    go_wp2_with fail
    have hb := al (Below.refl w15.heap.size w15) (.cells #[.int .i64 3, .int .i64 0, .int .i64 0, .int .i64 1, .int .i64 1, .int .i64 7, .string ⟨#[]⟩, .slice none 0 0, .slice none 0 0, .int .i64 1, .int .i64 0, .int .i64 0, .int .i64 0, .int .i64 0, .int .i64 0, .string ⟨#[]⟩, .slice none 0 0, .slice none 0 0] 30)
    replace HG := Lib.hid (And.intro (HG.out.1.thn hb) (HG.out.2.thn hb))
    replace HB := Lib.hid (thn HB.out hb)
    replace L4 := Lib.hid (L4.out.below hb hb.size)
    replace B1 := Lib.hid (B1.out.below hb B1.out.lt)
    replace B8 := Lib.hid (B8.out.below hb B8.out.lt)
    clear hb
    have L5 := Lib.hid (show LOk (w15.alloc (.cells #[.int .i64 3, .int .i64 0, .int .i64 0, .int .i64 1, .int .i64 1, .int .i64 7, .string ⟨#[]⟩, .slice none 0 0, .slice none 0 0, .int .i64 1, .int .i64 0, .int .i64 0, .int .i64 0, .int .i64 0, .int .i64 0, .string ⟨#[]⟩, .slice none 0 0, .slice none 0 0] 30)) (Lo (w15.alloc (.cells #[.int .i64 3, .int .i64 0, .int .i64 0, .int .i64 1, .int .i64 1, .int .i64 7, .string ⟨#[]⟩, .slice none 0 0, .slice none 0 0, .int .i64 1, .int .i64 0, .int .i64 0, .int .i64 0, .int .i64 0, .int .i64 0, .string ⟨#[]⟩, .slice none 0 0, .slice none 0 0] 30)).heap.size) (some ⟨w15.heap.size, 0, none⟩) [(eL ⟨1, 7, ⟨#[]⟩⟩), (eC 0)] from LOk.two (e := (eL ⟨1, 7, ⟨#[]⟩⟩)) (f := (eC 0)) (Blk.new w15 30 #[.int .i64 3, .int .i64 0, .int .i64 0, .int .i64 1, .int .i64 1, .int .i64 7, .string ⟨#[]⟩, .slice none 0 0, .slice none 0 0, .int .i64 1, .int .i64 0, .int .i64 0, .int .i64 0, .int .i64 0, .int .i64 0, .string ⟨#[]⟩, .slice none 0 0, .slice none 0 0]) (Blk.new w15 30 #[.int .i64 3, .int .i64 0, .int .i64 0, .int .i64 1, .int .i64 1, .int .i64 7, .string ⟨#[]⟩, .slice none 0 0, .slice none 0 0, .int .i64 1, .int .i64 0, .int .i64 0, .int .i64 0, .int .i64 0, .int .i64 0, .string ⟨#[]⟩, .slice none 0 0, .slice none 0 0]).lt LOk.nil_ (fun h0 => absurd h0 (Nat.lt_irrefl 0)) LOk.nil_ (fun h0 => absurd h0 (Nat.lt_irrefl 0)))
    refine (ROf_any 7 _ 2 2 _).mono ?_
    rintro x w16 ⟨rfl, hb⟩
    replace HG := Lib.hid (And.intro (HG.out.1.thn hb) (HG.out.2.thn hb))
    replace HB := Lib.hid (thn HB.out hb)
    replace L4 := Lib.hid (L4.out.below hb hb.size)
    replace B1 := Lib.hid (B1.out.below hb B1.out.lt)
    replace B8 := Lib.hid (B8.out.below hb B8.out.lt)
    replace L5 := Lib.hid (L5.out.below hb hb.size)
    clear hb
    go_wp2_with fail
    refine (three_any _).mono ?_
    rintro x wx ⟨rfl, rfl⟩
    have hb := al (Below.refl w16.heap.size w16) (.cells #[.int .i64 1, .bool false, .int .i64 1, .bool true, .int .i64 3, .bool true] 77)
    replace HG := Lib.hid (And.intro (HG.out.1.thn hb) (HG.out.2.thn hb))
    replace HB := Lib.hid (thn HB.out hb)
    replace L4 := Lib.hid (L4.out.below hb hb.size)
    replace B1 := Lib.hid (B1.out.below hb B1.out.lt)
    replace B8 := Lib.hid (B8.out.below hb B8.out.lt)
    replace L5 := Lib.hid (L5.out.below hb hb.size)
    clear hb
    have C1 := Lib.hid (three_reads (Blk.new w16 77 #[.int .i64 1, .bool false, .int .i64 1, .bool true, .int .i64 3, .bool true]))
    go_wp2_with fail
    refine (aw_KindD (some ⟨w15.heap.size, 0, none⟩) _ _ HG.out.2 L5.out C1.out).mono ?_
    rintro x w17 ⟨rfl, hb⟩
    replace HG := Lib.hid (And.intro (HG.out.1.thn hb) (HG.out.2.thn hb))
    replace HB := Lib.hid (thn HB.out hb)
    replace L4 := Lib.hid (L4.out.below hb hb.size)
    replace B1 := Lib.hid (B1.out.below hb B1.out.lt)
    replace B8 := Lib.hid (B8.out.below hb B8.out.lt)
    replace L5 := Lib.hid (L5.out.below hb hb.size)
    clear hb
    go_wp2_with fail
    clear C1 L5
    have hb := al (Below.refl w17.heap.size w17) (.cells #[.int .i64 1, .bool true] 77)
    replace HG := Lib.hid (And.intro (HG.out.1.thn hb) (HG.out.2.thn hb))
    replace HB := Lib.hid (thn HB.out hb)
    replace L4 := Lib.hid (L4.out.below hb hb.size)
    replace B1 := Lib.hid (B1.out.below hb B1.out.lt)
    replace B8 := Lib.hid (B8.out.below hb B8.out.lt)
    clear hb
    have B10 := Lib.hid (Blk.new w17 77 #[.int .i64 1, .bool true])
    refine (RCol_any 0 _).mono ?_
    rintro x w18 ⟨rfl, hb⟩
    replace HG := Lib.hid (And.intro (HG.out.1.thn hb) (HG.out.2.thn hb))
    replace HB := Lib.hid (thn HB.out hb)
    replace L4 := Lib.hid (L4.out.below hb hb.size)
    replace B1 := Lib.hid (B1.out.below hb B1.out.lt)
    replace B8 := Lib.hid (B8.out.below hb B8.out.lt)
    replace B10 := Lib.hid (B10.out.below hb B10.out.lt)
    clear hb
    go_wp2_with fail
    refine (RCol_any 2 _).mono ?_
    rintro x w19 ⟨rfl, hb⟩
    replace HG := Lib.hid (And.intro (HG.out.1.thn hb) (HG.out.2.thn hb))
    replace HB := Lib.hid (thn HB.out hb)
    replace L4 := Lib.hid (L4.out.below hb hb.size)
    replace B1 := Lib.hid (B1.out.below hb B1.out.lt)
    replace B8 := Lib.hid (B8.out.below hb B8.out.lt)
    replace B10 := Lib.hid (B10.out.below hb B10.out.lt)
    clear hb
    go_wp2_with fail
    have hb := al (Below.refl w19.heap.size w19) (.cells #[.int .i64 1, .int .i64 0, .int .i64 0, .int .i64 0, .int .i64 0, .int .i64 0, .string ⟨#[]⟩, .slice none 0 0, .slice none 0 0, .int .i64 1, .int .i64 2, .int .i64 0, .int .i64 0, .int .i64 0, .int .i64 0, .string ⟨#[]⟩, .slice none 0 0, .slice none 0 0] 30)
    replace HG := Lib.hid (And.intro (HG.out.1.thn hb) (HG.out.2.thn hb))
    replace HB := Lib.hid (thn HB.out hb)
    replace L4 := Lib.hid (L4.out.below hb hb.size)
    replace B1 := Lib.hid (B1.out.below hb B1.out.lt)
    replace B8 := Lib.hid (B8.out.below hb B8.out.lt)
    replace B10 := Lib.hid (B10.out.below hb B10.out.lt)
    clear hb
    have L6 := Lib.hid (show LOk (w19.alloc (.cells #[.int .i64 1, .int .i64 0, .int .i64 0, .int .i64 0, .int .i64 0, .int .i64 0, .string ⟨#[]⟩, .slice none 0 0, .slice none 0 0, .int .i64 1, .int .i64 2, .int .i64 0, .int .i64 0, .int .i64 0, .int .i64 0, .string ⟨#[]⟩, .slice none 0 0, .slice none 0 0] 30)) (Lo (w19.alloc (.cells #[.int .i64 1, .int .i64 0, .int .i64 0, .int .i64 0, .int .i64 0, .int .i64 0, .string ⟨#[]⟩, .slice none 0 0, .slice none 0 0, .int .i64 1, .int .i64 2, .int .i64 0, .int .i64 0, .int .i64 0, .int .i64 0, .string ⟨#[]⟩, .slice none 0 0, .slice none 0 0] 30)).heap.size) (some ⟨w19.heap.size, 0, none⟩) [(eC 0), (eC 2)] from LOk.two (e := (eC 0)) (f := (eC 2)) (Blk.new w19 30 #[.int .i64 1, .int .i64 0, .int .i64 0, .int .i64 0, .int .i64 0, .int .i64 0, .string ⟨#[]⟩, .slice none 0 0, .slice none 0 0, .int .i64 1, .int .i64 2, .int .i64 0, .int .i64 0, .int .i64 0, .int .i64 0, .string ⟨#[]⟩, .slice none 0 0, .slice none 0 0]) (Blk.new w19 30 #[.int .i64 1, .int .i64 0, .int .i64 0, .int .i64 0, .int .i64 0, .int .i64 0, .string ⟨#[]⟩, .slice none 0 0, .slice none 0 0, .int .i64 1, .int .i64 2, .int .i64 0, .int .i64 0, .int .i64 0, .int .i64 0, .string ⟨#[]⟩, .slice none 0 0, .slice none 0 0]).lt LOk.nil_ (fun h0 => absurd h0 (Nat.lt_irrefl 0)) LOk.nil_ (fun h0 => absurd h0 (Nat.lt_irrefl 0)))
    refine (ROf_any 4 _ 2 2 _).mono ?_
    rintro x w20 ⟨rfl, hb⟩
    replace HG := Lib.hid (And.intro (HG.out.1.thn hb) (HG.out.2.thn hb))
    replace HB := Lib.hid (thn HB.out hb)
    replace L4 := Lib.hid (L4.out.below hb hb.size)
    replace B1 := Lib.hid (B1.out.below hb B1.out.lt)
    replace B8 := Lib.hid (B8.out.below hb B8.out.lt)
    replace B10 := Lib.hid (B10.out.below hb B10.out.lt)
    replace L6 := Lib.hid (L6.out.below hb hb.size)
    clear hb
    go_wp2_with fail
    refine (three_any _).mono ?_
    rintro x wx ⟨rfl, rfl⟩
    have hb := al (Below.refl w20.heap.size w20) (.cells #[.int .i64 1, .bool false, .int .i64 1, .bool true, .int .i64 3, .bool true] 77)
    replace HG := Lib.hid (And.intro (HG.out.1.thn hb) (HG.out.2.thn hb))
    replace HB := Lib.hid (thn HB.out hb)
    replace L4 := Lib.hid (L4.out.below hb hb.size)
    replace B1 := Lib.hid (B1.out.below hb B1.out.lt)
    replace B8 := Lib.hid (B8.out.below hb B8.out.lt)
    replace B10 := Lib.hid (B10.out.below hb B10.out.lt)
    replace L6 := Lib.hid (L6.out.below hb hb.size)
    clear hb
    have C1 := Lib.hid (three_reads (Blk.new w20 77 #[.int .i64 1, .bool false, .int .i64 1, .bool true, .int .i64 3, .bool true]))
    go_wp2_with fail
    refine (aw_KindB (some ⟨w19.heap.size, 0, none⟩) _ _ HG.out.2 L6.out C1.out).mono ?_
    rintro x w21 ⟨rfl, hb⟩
    replace HG := Lib.hid (And.intro (HG.out.1.thn hb) (HG.out.2.thn hb))
    replace HB := Lib.hid (thn HB.out hb)
    replace L4 := Lib.hid (L4.out.below hb hb.size)
    replace B1 := Lib.hid (B1.out.below hb B1.out.lt)
    replace B8 := Lib.hid (B8.out.below hb B8.out.lt)
    replace B10 := Lib.hid (B10.out.below hb B10.out.lt)
    replace L6 := Lib.hid (L6.out.below hb hb.size)
    clear hb C1 L6
    clear L4 B1
    go_wp2_with fail
    have hz1 := B8.out.lt
    have hz2 := B10.out.lt
    have hz1a : g8 < w21.heap.size + 1 := by omega
    have hz1b : g8 < w21.heap.size + 1 + 1 := by omega
    have hz2a : w17.heap.size < w21.heap.size + 1 := by omega
    have hz2b : w17.heap.size < w21.heap.size + 1 + 1 := by omega
    have hb := al (Below.refl w21.heap.size w21) (.cells #[.int .i64 0, .bool false] 77)
    replace HG := Lib.hid (And.intro (HG.out.1.thn hb) (HG.out.2.thn hb))
    replace HB := Lib.hid (thn HB.out hb)
    replace B8 := Lib.hid (B8.out.below hb B8.out.lt)
    replace B10 := Lib.hid (B10.out.below hb B10.out.lt)
    clear hb
    obtain ⟨⟨s0, s1, s2⟩, sx⟩ := B8.out.three
    have y0 := B10.out.cell 0
    have y1 := B10.out.cell 1
    simp only [List.getElem?_toArray, List.getElem?_cons_succ, List.getElem?_cons_zero] at y0 y1
    clear sx
    have heq := @eqV
    have hf : veq 2 0 ⟨#[]⟩ 2 0 ⟨#[]⟩ = true := by simp [veq]
    go_region_held3 (fun w' => w'.cell? ⟨g8, 0, none⟩ = some (.int .i64 2) ∧ w'.cell? ⟨g8, 1, none⟩ = some (.int .i64 0) ∧ w'.cell? ⟨g8, 2, none⟩ = some (.string ⟨#[]⟩) ∧ w'.cell? ⟨w17.heap.size, 0, none⟩ = some (.int .i64 1) ∧ w'.cell? ⟨w17.heap.size, 1, none⟩ = some (.bool true)) (simp [go_sem, World.cell?_alloc_past, *]) (first | (go_at_call 56; refine (rFalse_exact _).mono ?_; rintro e w' ⟨rfl, rfl⟩))
    go_wp2_with fail
    go_ret
    exact ⟨rfl, (al HB.out _).drew⟩
end Go.Proofs.YtdiehgfldndgbaaGreatDoor
