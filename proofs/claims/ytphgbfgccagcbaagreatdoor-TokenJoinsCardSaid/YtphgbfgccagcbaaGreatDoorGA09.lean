/-
  PkL: CONTRACTS of the library's functions that package token calls, as its walks ask them.
  PkN: CONTRACT of package token's isNameOrWord: the form of a name.
  PkJ: CONTRACT of package token's Join: the texts, a blank between any two.
-/
import Derived.Test.YtphgbfgccagcbaaGreatDoorGA06
import Derived.Test.YtphgbfgccagcbaaGreatDoorGA08
import Derived.Test.YtphgbfgccagcbaaGreatDoorTrm
import Derived.Test.YtphgbfgccagcbaaGreatDoorShelf
import Derived.Test.YtphgbfgccagcbaaGreatDoorGA07
import Derived.Deep.OwnRows
namespace Go.Proofs.YtphgbfgccagcbaaGreatDoor
open Go.RowKit

theorem ascii_of {l : List UInt8} (h : ∀ c ∈ l, c.toNat < 128) : ∀ (j : Nat) (b : UInt8), l[j]? = some b → b.toNat < 128 := fun _ b hb => h b (List.mem_of_getElem? hb)
theorem csT_ascii : ∀ c ∈ csT, c.toNat < 128 := by decide +kernel
theorem csR_ascii : ∀ c ∈ csR, c.toNat < 128 := by decide +kernel
theorem hasPrefixL (s p : ByteArray) (w : World) : Calls Tryz.prog 30 #[.string s, .string p] w fun e w' => e = .returned (.bool (Lib.hasPrefix s.data.toList p.data.toList)) ∧ w' = w := Tryz.strings_HasPrefix s p w
theorem indexByteL (s : ByteArray) (c : Int) (w : World) : Calls Tryz.prog 43 #[.string s, .int .u8 c] w fun e w' => e = .returned (.int .i64 (Lib.indexByte s.data.toList c.toNat.toUInt8)) ∧ w' = w := Tryz.strings_IndexByte s c w
theorem trimL (s : ByteArray) (w : World) (hs : s.size ≤ 20000) : Calls Tryz.prog 44 #[.string s, .string ⟨csT.toArray⟩] w fun e w' => e = .returned (.string ⟨(Lib.trimS s.data.toList csT).toArray⟩) ∧ Below w.heap.size w w' :=
  Tryz.strings_Trim_set s ⟨csT.toArray⟩ w (by omega) (by decide +kernel) (ascii_of csT_ascii)
theorem trimLeftL (s : ByteArray) (w : World) : Calls Tryz.prog 51 #[.string s, .string ⟨csR.toArray⟩] w fun e w' => e = .returned (.string ⟨(Lib.trimLeftS s.data.toList csR).toArray⟩) ∧ Below w.heap.size w w' :=
  Tryz.strings_TrimLeft_set s ⟨csR.toArray⟩ w (by decide +kernel) (ascii_of csR_ascii)
theorem toLowerL (s : ByteArray) (w : World) (hs : s.size ≤ 20000) (ha : ∀ c ∈ s.data.toList, c.toNat < 128) : Calls Tryz.prog 52 #[.string s] w fun e w' => e = .returned (.string ⟨(Lib.toLowerA s.data.toList).toArray⟩) ∧ Below w.heap.size w w' :=
  Tryz.strings_ToLower_ascii s w (by omega) (ascii_of ha)
theorem fieldsL (s : ByteArray) (w : World) (hG : GT w) (hs : s.size ≤ 20000) (ha : ∀ c ∈ s.data.toList, c.toNat < 128) : Calls Tryz.prog 42 #[.string s] w fun e w' =>
      e = .returned (.slice (some ⟨w.heap.size, 0, none⟩) (Lib.fields s.data.toList).length (Lib.fields s.data.toList).length) ∧ w' = w.alloc (.cells ((Lib.fields s.data.toList).map fun l => Value.string ⟨l.toArray⟩).toArray 9) :=
  Tryz.strings_Fields s w (by omega) (ascii_of ha) hG.sp
theorem joinL (bk o c : Nat) (xs : List ByteArray) (sep : ByteArray) (w : World) (hcells : ∀ (j : Nat) x, xs[j]? = some x → w.cell? ⟨bk, o + j, none⟩ = some (.string x)) (hbk : bk < w.heap.size) (hN : xs.length ≤ 140737488355328) (hcap : xs.length ≤ c) (hlen : (Lib.join (xs.map (·.data.toList)) sep.data.toList).length ≤ 140737488355328) :
    Calls Tryz.prog 28 #[.slice (some ⟨bk, o, none⟩) xs.length c, .string sep] w fun e w' => e = .returned (.string ⟨(Lib.join (xs.map (·.data.toList)) sep.data.toList).toArray⟩) ∧ Below w.heap.size w w' :=
  Tryz.strings_Join bk o c xs sep w hcells hbk hN hcap hlen
end Go.Proofs.YtphgbfgccagcbaaGreatDoor
namespace Go.Proofs.YtphgbfgccagcbaaGreatDoor
open Go.RowKit

theorem idxS (c : UInt8) : decide (Lib.indexByte csS c < 0) = !decide (97 ≤ c.toNat ∧ c.toNat ≤ 122) :=
  byte_all (p := fun c => decide (Lib.indexByte csS c < 0) = !decide (97 ≤ c.toNat ∧ c.toNat ≤ 122)) (by decide +kernel) c
theorem formed_long {l : List UInt8} (h : 20 < l.length) : formed l = false := formed_len (.inr h)
set_option maxHeartbeats 1000000 in
theorem isNameOrWord_any (s : ByteArray) (w : World) (hs : s.size ≤ 20000) :
    Calls Tryz.prog 25 #[.string s] w fun e w' => e = .returned (.bool (formed s.data.toList)) ∧ Below w.heap.size w w' := by
  have hlen : s.data.toList.length = s.size := Array.length_toList
  by_cases h0 : s.size = 0
  · have hnil : s.data.toList = [] := List.eq_nil_of_length_eq_zero (by omega)
    have he : s.toList.isEmpty = true := by rw [toList_eq, hnil]; rfl
    have HF : Hid (formed s.data.toList = false) := Lib.hid (by rw [hnil]; rfl)
    clear hnil hlen h0
    go_enter Tryz.func25, Tryz.ntmps25
    go_wp2_with fail
    go_ret
    exact ⟨by rw [HF.out]; rfl, Below.refl _ _⟩
  · have he : s.toList.isEmpty = false := by
      rw [toList_eq]
      cases hl : s.data.toList with
      | nil => rw [hl] at hlen; simp at hlen; omega
      | cons a b => rfl
    by_cases h20 : 20 < s.size
    · have h20d : decide ((20 : Int) < (s.size : Int)) = true := decide_eq_true (by omega)
      have HF : Hid (formed s.data.toList = false) := Lib.hid (formed_long (by omega))
      clear hlen
      go_enter Tryz.func25, Tryz.ntmps25
      go_wp2_with fail
      go_ret
      exact ⟨by rw [HF.out]; rfl, Below.refl _ _⟩
    · have h20d : decide ((20 : Int) < (s.size : Int)) = false := decide_eq_false (by omega)
      have hp : 0 < s.size := by omega
      have hpi : (0 : Int) < (s.size : Int) := by omega
      obtain ⟨r, hr⟩ := bytes_cons hp
      by_cases hc : 97 ≤ s[0].toNat ∧ s[0].toNat ≤ 122
      · have hx := idxS s[0]
        rw [decide_eq_true hc, Bool.not_true] at hx
        unfold csS at hx
        have HF : Hid (formed s.data.toList = decide (Lib.trimS s.data.toList csT = [])) := Lib.hid (formed_eq _ (by omega) hr hc)
        clear hlen hr hc
        go_enter Tryz.func25, Tryz.ntmps25
        go_wp2_with (first
          | (go_at_call 43; refine (indexByteL _ _ _).mono ?_; rintro e w' ⟨rfl, rfl⟩)
          | (go_at_call 44; refine (trimL s _ hs).mono ?_; rintro e w' ⟨rfl, hb⟩))
        go_ret
        refine ⟨?_, hb⟩
        rw [HF.out]
        cases Lib.trimS s.data.toList csT <;> rfl
      · have hx := idxS s[0]
        rw [decide_eq_false hc, Bool.not_false] at hx
        unfold csS at hx
        have HF : Hid (formed s.data.toList = false) := Lib.hid (by rw [hr]; exact formed_head hc)
        clear hlen hr hc
        go_enter Tryz.func25, Tryz.ntmps25
        go_wp2_with (go_at_call 43; refine (indexByteL _ _ _).mono ?_; rintro e w' ⟨rfl, rfl⟩)
        go_ret
        exact ⟨by rw [HF.out]; rfl, Below.refl _ _⟩
end Go.Proofs.YtphgbfgccagcbaaGreatDoor
namespace Go.Proofs.YtphgbfgccagcbaaGreatDoor
open Go.RowKit Go.Deep

theorem infoStr : (Tryz.prog.info? 9).map (fun i => (i.zero, i.size, i.bytes)) = some (some (.string ⟨#[]⟩), 1, 16) := by kernel_rfl
theorem makeS (n : Nat) (hn : n ≤ 1000000) (w : World) : (Instr.makeSlice 32 (.int .i64 (n : Int)) (.int .i64 (n : Int))).run Tryz.prog w = .ok (.slice (some ⟨w.heap.size, 0, none⟩) n n) (w.alloc (.cells (madeCells #[.string ⟨#[]⟩] n) 9)) :=
  run_make_row' (P := Tryz.prog) 32 9 (.string ⟨#[]⟩) 16 Tryz.underlying32 infoStr rfl .i64 .i64 n (by omega) (by omega) w
theorem join_eq : ∀ l : List (List UInt8), Lib.join l [32] = Tok.join l
  | [] => rfl
  | [t] => Lib.join_one t [32]
  | t :: u :: l => by
    have ih := join_eq (u :: l)
    rw [Lib.join_cons] at ih ⊢
    rw [Tok.join, ← ih]
    simp [Lib.joinTail]
theorem join_cap (l : List ByteArray) (h : ∀ x ∈ l, x.size ≤ 20000) : (Tok.join (bytesL l)).length ≤ 20001 * l.length := by
  have := join_bound l h l.length (Nat.le_refl _)
  rwa [List.take_length] at this
set_option maxHeartbeats 2000000 in
set_option maxRecDepth 100000 in
theorem PJoin_any (A : Option Addr) (c : Nat) (l : List Tk) (w : World) (hG : GT w) (hr : TkReads w w.heap.size A l) (hf : ∀ x ∈ l, x.s.size ≤ 20000) (hn : l.length ≤ 20000) :
    Calls Tryz.prog 17 #[.slice A l.length c] w fun e w' => e = .returned (.string ⟨(Tok.join (bytesL (l.map Tk.s))).toArray⟩) ∧ Below w.heap.size w w' := by
  have HA := Lib.hid (And.intro hr (And.intro hf hG))
  have hmk := makeS l.length (by omega)
  clear hr hf hG
  go_enter Tryz.func17, Tryz.ntmps17
  go_wp2_with fail
  go_loopw [11] (fun iv wr => ∃ (j : Nat) (C : Array Value), j ≤ l.length ∧ iv = .int .i64 j ∧ Hid (Below w.heap.size w wr ∧ Blk wr w.heap.size 9 C) ∧ Hid (C.size = l.length ∧ ∀ (i : Nat) (e : Tk), i < j → l[i]? = some e → C[i]? = some (Value.string e.s))) (fun iv _ => l.length - (intOf iv).toNat)
  case atStart => exact ⟨0, _, Nat.zero_le _, rfl, ⟨al (Below.refl _ _) _, Blk.new _ _ _⟩, ⟨by simp [madeCells], fun i e h => absurd h (Nat.not_lt_zero _)⟩⟩
  case round =>
    obtain ⟨j, C, hj, rfl, HW, HC⟩ := hrel
    by_cases hlt : j < l.length
    · have hlti : (j : Int) < (l.length : Int) := by omega
      obtain ⟨b, o, rfl, hb, x0, x1, x2⟩ := (HA.out.1.below HW.out.1 HW.out.1.size).at_ hlt
      have HG : Hid (l[j]? = some l[j]) := Lib.hid (List.getElem?_eq_getElem hlt)
      have hCj : j < C.size := by rw [HC.out.1]; exact hlt
      generalize l[j] = x at *
      obtain ⟨xk, xs, xa⟩ := x
      simp only at x0 x1 x2
      have hne : ¬ wr.heap.size = w.heap.size := by have := HW.out.2.lt; omega
      have hB3 := HW.out.2.alloc (.cells #[.int .i64 xk, .string xs, .int .i64 xa] 36)
      have k0 := hB3.cell j
      have kf := hB3.frozen j
      rw [Array.getElem?_eq_getElem hCj] at k0
      have HN : Hid ((Below w.heap.size w ((wr.alloc (.cells #[.int .i64 xk, .string xs, .int .i64 xa] 36)).setCell ⟨w.heap.size, j, none⟩ (.string xs)) ∧ Blk ((wr.alloc (.cells #[.int .i64 xk, .string xs, .int .i64 xa] 36)).setCell ⟨w.heap.size, j, none⟩ (.string xs)) w.heap.size 9 (C.setIfInBounds j (.string xs))) ∧ (C.setIfInBounds j (.string xs)).size = l.length ∧ ∀ (i : Nat) (e : Tk), i < j + 1 → l[i]? = some e → (C.setIfInBounds j (.string xs))[i]? = some (.string e.s)) := by
        refine ⟨⟨(al HW.out.1 _).setCell (p := ⟨w.heap.size, j, none⟩) (Nat.le_refl _) _, hB3.set_ j _⟩, by simpa using HC.out.1, fun i e hi hie => ?_⟩
        by_cases hij : i = j
        · subst hij
          rw [HG.out] at hie
          injection hie with hie
          subst hie
          simp [hCj]
        · rw [Array.getElem?_setIfInBounds_ne (fun h => hij h.symm)]
          exact HC.out.2 i e (by omega) hie
      clear hB3
      go_wp2_with fail
      exact ⟨⟨j + 1, _, by omega, by go_num, HN.out.1, HN.out.2⟩, by simp [intOf]; omega⟩
    · have hlf : decide ((j : Int) < (l.length : Int)) = false := decide_eq_false (by omega)
      have hjl : j = l.length := by omega
      subst hjl
      have hml : (l.map Tk.s).length = l.length := List.length_map ..
      have hbd := join_cap (l.map Tk.s) (fun x hx => by
        obtain ⟨y, hy, rfl⟩ := List.mem_map.1 hx
        exact HA.out.2.1 y hy)
      have HJ : Hid (Lib.join ((l.map Tk.s).map (·.data.toList)) (⟨#[32]⟩ : ByteArray).data.toList = Tok.join (bytesL (l.map Tk.s))) := Lib.hid (join_eq _)
      have HK := Lib.hid (joinL w.heap.size 0 l.length (l.map Tk.s) ⟨#[32]⟩ wr (fun i x hx => by
        rw [List.getElem?_map] at hx
        obtain ⟨y, hy, rfl⟩ := Option.map_eq_some_iff.1 hx
        rw [Nat.zero_add, HW.out.2.cell i]
        exact HC.out.2 i y (List.getElem?_eq_some_iff.1 hy).1 hy) HW.out.2.lt (by omega) (by omega) (by
          rw [HJ.out]; omega))
      rw [hml, HJ.out] at HK
      clear hbd
      go_wp2_with fail
      refine HK.out.mono ?_
      rintro e w3 ⟨rfl, hb3⟩
      go_wp2_with fail
      go_ret
      exact ⟨rfl, thn HW.out.1 hb3⟩
end Go.Proofs.YtphgbfgccagcbaaGreatDoor
