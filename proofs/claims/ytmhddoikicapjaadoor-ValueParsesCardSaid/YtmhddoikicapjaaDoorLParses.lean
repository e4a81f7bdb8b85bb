/-
  THE LAW ValueParses: it returns true, whatever came in.
-/
import Derived.Test.YtmhddoikicapjaaDoorRefP4
import Derived.Test.YtmhddoikicapjaaDoorAwake
namespace Go.Proofs.YtmhddoikicapjaaDoor
open Go.RowKit

/-- so many sevens -/
def sevens (n : Nat) : List UInt8 := List.replicate n 55
theorem sevens_no (n : Nat) (h : 600 < n) : parses ⟨(sevens n).toArray⟩ = false := by
  cases hp : parses ⟨(sevens n).toArray⟩ with
  | false => rfl
  | true =>
    exfalso
    have hl : (sevens n).length = n := List.length_replicate
    have hsz : (⟨(sevens n).toArray⟩ : ByteArray).data.toList = sevens n := rfl
    rcases parses_cases hp with e | e | e | ⟨m, hm, e⟩ | ⟨l, hl2, e⟩
    · have := congrArg (fun x : ByteArray => x.data.toList.length) e
      simp [sNull, hl] at this; omega
    · have := congrArg (fun x : ByteArray => x.data.toList.length) e
      simp [sFalse, hl] at this; omega
    · have := congrArg (fun x : ByteArray => x.data.toList.length) e
      simp [sTrue, hl] at this; omega
    · have h1 := congrArg (fun x : ByteArray => x.data.toList.length) e
      have h2 := (itoa_len m hm).1
      simp [hl] at h1; omega
    · rw [hsz] at e
      have h1 := congrArg List.length e
      have h2 := quote_len l
      have h3 : l.length ≤ 200 := by unfold okText at hl2; simp at hl2; exact hl2.1
      simp [hl] at h1; omega
theorem infoB : (Tryd.prog.info? 5).map (fun i => (i.zero, i.size, i.bytes)) = some (some (.int .u8 0), 1, 1) := by kernel_rfl
theorem make_b (w : World) : ∃ C : Array Value, C.size = 20001 ∧ (Instr.makeSlice 22 (.int .i64 20001) (.int .i64 20001)).run Tryd.prog w = .ok (.slice (some ⟨w.heap.size, 0, none⟩) 20001 20001) (w.alloc (.cells C 5)) := by
  have h := run_make_row' (P := Tryd.prog) 22 5 (.int .u8 0) 1 Tryd.underlying22 infoB rfl .i64 .i64 20001 (by decide) (by decide) w
  exact ⟨_, by simp [madeCells], h⟩
theorem seven_string (w : World) (g o n : Nat) (C : Array Value) (h : Blk w g 5 C) (hs : o + n ≤ C.size) (hc : ∀ i, i < C.size → C[i]? = some (.int .u8 55)) (cap : Nat) :
    (convert 22 9 (.slice (some ⟨g, o, none⟩) n cap)).run Tryd.prog w = .ok (.string ⟨(sevens n).toArray⟩) w := by
  have hl : (sevens n).length = n := List.length_replicate
  have := run_convert_bytes_back (P := Tryd.prog) w 22 9 5 ⟨g, o, none⟩ cap (sevens n) Tryd.underlying22 Tryd.underlying5 Tryd.underlying9 fun j hj => by
    have hj' : j < n := by omega
    rw [addN, h.cell, hc (o + j) (by omega)]
    simp [sevens]
  rw [hl] at this
  exact this

set_option maxHeartbeats 1000000 in
set_option maxRecDepth 100000 in
theorem parses_law (t : ByteArray) (long : Bool) (w : World) (hG : G w) (ht : t.size ≤ maxLen) :
    Calls Tryd.prog 3 #[.string t, .bool long] w fun e w' => e = .returned (.bool true) ∧ Below w.heap.size w w' := by
  have HG := Lib.hid hG
  have ht := Nat.le_trans ht (Nat.le_refl _)
  unfold maxLen at ht
  have heq := @eqV
  have hz : veq 0 0 ⟨#[]⟩ 0 0 ⟨#[]⟩ = true := veq_self _ _ _
  clear hG
  cases long with
  | false =>
    go_enter Tryd.func3, Tryd.ntmps3
    go_wp2_with fail
    generalize hu : t.extract 0 (min (t.size : Int) 600).toNat = u
    have hus : u.size ≤ 600 := by
      rw [← hu, ByteArray.size_extract]; omega
    have HU := Lib.hid hus
    clear hu hus ht
    by_cases hpu : parses u = true
    · have HPU := Lib.hid hpu
      clear hpu
      refine (Parse_yes u _ HG.out (by have := HU.out; omega) HPU.out).mono ?_
      rintro e w1 ⟨rfl, hb1⟩
      have W1 := Lib.hid hb1
      clear hb1
      go_wp2_with fail
      refine (rParse_any u _ (by have := HU.out; omega)).mono ?_
      rintro e w2 ⟨x, b, rfl, hA, hb2⟩
      have hb : b = true := by
        cases b with
        | true => rfl
        | false => have := hA.2 rfl; rw [HPU.out] at this; cases this
      subst hb
      have hx := (hA.1 rfl).2
      subst hx
      have W2 := Lib.hid (thn (al W1.out _) hb2)
      have X2 := (Blk.new' (w := w1) (g := w1.heap.size) (t := 25) (cs := #[.int .i64 (readV u).k, .int .i64 (readV u).n, .string (readV u).s]) rfl).below hb2 (by simp)
      have hlt := X2.lt
      obtain ⟨⟨x0, x1, x2⟩, xx⟩ := X2.three
      have hvv := veq_self (readV u).k (readV u).n (readV u).s
      clear hb2 xx X2 hA
      generalize readV u = y at *
      go_wp2_with fail
      refine (awake_any _ (HG.out.thn (al W2.out _))).mono ?_
      rintro e w3 ⟨rfl, hb3⟩
      go_wp2_with fail
      go_ret
      exact ⟨rfl, thn (al W2.out _) hb3⟩
    · have hpu0 : parses u = false := by simpa using hpu
      have HPU := Lib.hid hpu0
      clear hpu hpu0
      refine (Parse_no u _ HG.out (by have := HU.out; omega) HPU.out).mono ?_
      rintro e w1 ⟨rfl, hb1⟩
      have W1 := Lib.hid hb1
      clear hb1
      go_wp2_with fail
      refine (rParse_any u _ (by have := HU.out; omega)).mono ?_
      rintro e w2 ⟨x, b, rfl, hA, hb2⟩
      have hb : b = false := by
        cases b with
        | false => rfl
        | true => have := (hA.1 rfl).1; rw [HPU.out] at this; cases this
      subst hb
      have W2 := Lib.hid (thn (al W1.out _) hb2)
      have X2 := (Blk.new' (w := w1) (g := w1.heap.size) (t := 25) (cs := #[.int .i64 0, .int .i64 0, .string ⟨#[]⟩]) rfl).below hb2 (by simp)
      have hlt := X2.lt
      obtain ⟨⟨x0, x1, x2⟩, xx⟩ := X2.three
      clear hb2 xx X2 hA
      go_wp2_with fail
      refine (awake_any _ (HG.out.thn (al W2.out _))).mono ?_
      rintro e w3 ⟨rfl, hb3⟩
      go_wp2_with fail
      go_ret
      exact ⟨rfl, thn (al W2.out _) hb3⟩
  | true =>
    obtain ⟨C, hC, hmk⟩ := make_b w
    go_enter Tryd.func3, Tryd.ntmps3
    go_wp2_with fail
    go_loopw [7] (fun i wr => ∃ (j : Nat) (D : Array Value), j ≤ 20001 ∧ i = .int .i64 j ∧ D.size = 20001 ∧ Hid (∀ i, i < j → D[i]? = some (.int .u8 55)) ∧ Hid (Below w.heap.size w wr) ∧ Blk wr w.heap.size 5 D) (fun i _ => 20001 - (intOf i).toNat)
    case atStart => exact ⟨0, C, Nat.zero_le _, rfl, hC, (fun i hi => absurd hi (Nat.not_lt_zero _)), al (Below.refl _ _) _, Blk.new' rfl⟩
    case round =>
      obtain ⟨j, D, hj, rfl, hD, HD, HB, BR⟩ := hrel
      by_cases hlt : j < 20001
      · have hlti : (j : Int) < 20001 := by omega
        have hd := BR.cell j
        rw [Array.getElem?_eq_getElem (by omega)] at hd
        have hf := BR.frozen j
        go_wp2_with fail
        go_roundw
        case rel =>
          refine ⟨j + 1, D.setIfInBounds j (.int .u8 55), by omega, by go_num, by simpa using hD, ?_, HB.out.setCell (Nat.le_refl _) _, BR.set_ j _⟩
          show ∀ i, i < j + 1 → _
          intro i hi
          rw [Array.getElem?_setIfInBounds]
          by_cases hij : j = i
          · rw [if_pos hij, if_pos (by omega)]
          · rw [if_neg hij]
            exact HD.out i (by omega)
        case measure => simp [intOf]; omega
      · have hj' : j = 20001 := by omega
        have HD2 : Hid (∀ i, i < D.size → D[i]? = some (.int .u8 55)) := fun i hi => HD.out i (by omega)
        have c1 := seven_string wr w.heap.size 0 20001 D BR (by omega) HD2.out 20001
        have hp := sevens_no 20000 (by decide)
        have hs1 : (⟨(sevens 20001).toArray⟩ : ByteArray).size = 20001 := by simp [sevens, ByteArray.size]
        have hs2 : (⟨(sevens 20000).toArray⟩ : ByteArray).size = 20000 := by simp [sevens, ByteArray.size]
        have hcv := fun (w' : World) (h : Blk w' w.heap.size 5 D) => seven_string w' w.heap.size 1 20000 D h (by omega) HD2.out 20000
        generalize (⟨(sevens 20001).toArray⟩ : ByteArray) = s1 at *
        generalize (⟨(sevens 20000).toArray⟩ : ByteArray) = s2 at *
        have HC2 := Lib.hid hcv
        have HP := Lib.hid hp
        have HS1 := Lib.hid hs1
        have HS2 := Lib.hid hs2
        clear hcv hp hs1 hs2 HD HD2 hmk
        go_wp2_with fail
        refine (Parse_long s1 _ (by have := HS1.out; unfold maxLen; omega) (by have := HS1.out; omega)).mono ?_
        rintro e w1 ⟨rfl, hb1⟩
        have W1 := Lib.hid (thn HB.out hb1)
        have B1 := (BR.below hb1 BR.lt).alloc (.cells #[.int .i64 0, .int .i64 0, .string ⟨#[]⟩] 25)
        have c2 := HC2.out _ B1
        clear hb1 BR c1
        go_wp2_with fail
        refine (Parse_no s2 _ (HG.out.thn (al W1.out _)) (by have := HS2.out; omega) HP.out).mono ?_
        rintro e w2 ⟨rfl, hb2⟩
        have W2 := Lib.hid (thn (al W1.out _) hb2)
        have X2 := (Blk.new' (w := w1) (g := w1.heap.size) (t := 25) (cs := #[.int .i64 0, .int .i64 0, .string ⟨#[]⟩]) rfl).below hb2 (by simp)
        have hlx := X2.lt
        obtain ⟨⟨x0, x1, x2⟩, xx⟩ := X2.three
        clear hb2 xx X2 c2 B1
        go_wp2_with fail
        refine (awake_any _ (HG.out.thn (al W2.out _))).mono ?_
        rintro e w3 ⟨rfl, hb3⟩
        go_wp2_with fail
        go_ret
        exact ⟨rfl, thn (al W2.out _) hb3⟩
end Go.Proofs.YtmhddoikicapjaaDoor
