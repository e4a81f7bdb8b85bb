/-
  PsE: CONTRACTS of scalar's parser: eat, need, take.
  End: CONTRACT of scalar.end: where the value at the beginning of a string ends.
  Lit: CONTRACTS: scalar.literal, and the parser's kind.
-/
import Derived.Test.YtdiehgfldndgbaaGreatDoorGA08
import Derived.Test.YtdiehgfldndgbaaGreatDoorShelf
import Derived.Test.YtdiehgfldndgbaaGreatDoorGA07
namespace Go.Proofs.YtdiehgfldndgbaaGreatDoor
open Go.RowKit

/-- a parser that has l still to read -/
def PAt (w : World) (g : Nat) (l : List UInt8) : Prop := Blk w g 107 #[.string ⟨l.toArray⟩]
theorem PAt.below {w w' : World} {g : Nat} {l : List UInt8} (h : PAt w g l) (hb : Below w.heap.size w w') : PAt w' g l := Blk.below h hb h.lt
theorem PAt.set {w : World} {g : Nat} {l : List UInt8} (h : PAt w g l) (s : List UInt8) : PAt (w.setCell ⟨g, 0, none⟩ (.string ⟨s.toArray⟩)) g s := Blk.set_ h 0 (.string ⟨s.toArray⟩)
theorem But.self (g : Nat) (w : World) : But g w w := But.of (Below.refl _ _)
set_option maxHeartbeats 1000000 in
theorem eat_any (g : Nat) (l : List UInt8) (p : ByteArray) (w : World) (hB : PAt w g l) :
    Calls Tryz.prog 96 #[.pointer (some ⟨g, 0, none⟩), .string p] w fun x w' => x = .returned (.bool (Lib.hasPrefix l p.data.toList)) ∧ But g w w' ∧ PAt w' g (Lib.trimPrefix l p.data.toList) := by
  have c0 := Blk.cell hB 0
  have f0 := Blk.frozen hB 0
  simp only [List.getElem?_toArray, List.getElem?_cons_zero] at c0
  have HC := Lib.hid (Tryz.strings_CutPrefix ⟨l.toArray⟩ p w)
  have HB := Lib.hid (hB.set (Lib.trimPrefix l p.data.toList))
  have HL : Hid ((⟨l.toArray⟩ : ByteArray).data.toList = l) := Lib.hid rfl
  rw [HL.out] at HC
  generalize Lib.trimPrefix l p.data.toList = r at *
  generalize Lib.hasPrefix l p.data.toList = b at *
  clear hB
  go_enter Tryz.func96, Tryz.ntmps96
  go_wp2_with fail
  refine HC.out.mono ?_
  rintro x w1 ⟨rfl, rfl⟩
  go_wp2_with fail
  go_ret
  exact ⟨rfl, (But.self g _).set 0 _, HB.out⟩
theorem eat_hit (g : Nat) (l r : List UInt8) (p : ByteArray) (w : World) (hB : PAt w g l) (hl : l = p.data.toList ++ r) :
    Calls Tryz.prog 96 #[.pointer (some ⟨g, 0, none⟩), .string p] w fun x w' => x = .returned (.bool true) ∧ But g w w' ∧ PAt w' g r := by
  have h1 : Lib.hasPrefix l p.data.toList = true := by
    rw [hl]; unfold Lib.hasPrefix
    rw [List.isPrefixOf_iff_prefix]
    exact List.prefix_append _ _
  have h2 : Lib.trimPrefix l p.data.toList = r := by
    unfold Lib.trimPrefix
    rw [if_pos h1, hl, List.drop_left]
  have h := eat_any g l p w hB
  rw [h1, h2] at h
  exact h
theorem eat_miss (g : Nat) (l : List UInt8) (p : ByteArray) (w : World) (hB : PAt w g l) (hl : Lib.hasPrefix l p.data.toList = false) :
    Calls Tryz.prog 96 #[.pointer (some ⟨g, 0, none⟩), .string p] w fun x w' => x = .returned (.bool false) ∧ But g w w' ∧ PAt w' g l := by
  have h2 : Lib.trimPrefix l p.data.toList = l := by
    unfold Lib.trimPrefix
    rw [if_neg (by rw [hl]; decide)]
  have h := eat_any g l p w hB
  rw [hl, h2] at h
  exact h
set_option maxHeartbeats 1000000 in
theorem need_hit (g : Nat) (l r : List UInt8) (p : ByteArray) (w : World) (hB : PAt w g l) (hl : l = p.data.toList ++ r) :
    Calls Tryz.prog 98 #[.pointer (some ⟨g, 0, none⟩), .string p] w fun x w' => x = .returned (.tuple #[]) ∧ But g w w' ∧ PAt w' g r := by
  have HE := Lib.hid (eat_hit g l r p w hB hl)
  clear hB hl
  go_enter Tryz.func98, Tryz.ntmps98
  go_wp2_with fail
  refine HE.out.mono ?_
  rintro x w1 ⟨rfl, hb1, hp1⟩
  have H1 := Lib.hid (And.intro hb1 hp1)
  clear hb1 hp1
  go_wp2_with fail
  first | go_end0 | skip
  exact ⟨rfl, H1.out⟩
set_option maxHeartbeats 1000000 in
theorem take_any (g : Nat) (l r : List UInt8) (w : World) (hB : PAt w g (l ++ r)) (hn : (l ++ r).length ≤ 1000000) :
    Calls Tryz.prog 142 #[.pointer (some ⟨g, 0, none⟩), .int .i64 (l.length : Nat)] w fun x w' => x = .returned (.string ⟨l.toArray⟩) ∧ But g w w' ∧ PAt w' g r := by
  obtain ⟨s, hs⟩ : ∃ s : ByteArray, s = ⟨(l ++ r).toArray⟩ := ⟨_, rfl⟩
  have hsz : s.size = l.length + r.length := by rw [hs]; show (l ++ r).toArray.size = _; simp
  have HT : Hid (s.extract 0 l.length = ⟨l.toArray⟩) := Lib.hid (by
    rw [hs]
    apply ByteArray.ext
    apply Array.ext'
    simp)
  have HD : Hid (s.extract l.length (l.length + r.length) = ⟨r.toArray⟩) := Lib.hid (by
    rw [hs]
    apply ByteArray.ext
    apply Array.ext'
    simp)
  have HB := Lib.hid (hB.set r)
  unfold PAt at hB
  rw [← hs] at hB
  have c0 := Blk.cell hB 0
  have f0 := Blk.frozen hB 0
  simp only [List.getElem?_toArray, List.getElem?_cons_zero] at c0
  have hle : l.length ≤ s.size := by omega
  have hle2 : (l.length : Int) ≤ (s.size : Int) := by omega
  have hs1 : s.size ≤ 1000000 := by rw [hsz]; simpa using hn
  clear hB hs hn
  go_enter Tryz.func142, Tryz.ntmps142
  go_wp2_with fail
  rw [HT.out, HD.out]
  go_ret
  exact ⟨rfl, (But.self g _).set 0 _, HB.out⟩
end Go.Proofs.YtdiehgfldndgbaaGreatDoor
namespace Go.Proofs.YtdiehgfldndgbaaGreatDoor
open Go.RowKit

/-- whether one is in a text, behind a byte -/
def inQ (q : Bool) (c : UInt8) : Bool := if c.toNat = 39 then !q else q
/-- a byte that ends a value -/
def stops (c : UInt8) : Bool := decide (0 ≤ Lib.indexByte [44, 41, 58] c)
def endL : Bool → List UInt8 → Nat
  | _, [] => 0
  | q, c :: l => if !(inQ q c) && stops c then 0 else endL (inQ q c) l + 1
theorem endL_go {b q : Bool} {c : UInt8} {l : List UInt8} (h : inQ b c = q) (h2 : q = true ∨ stops c = false) : endL b (c :: l) = endL q l + 1 := by
  rw [endL, h, if_neg (by rcases h2 with h2 | h2 <;> simp [h2])]
theorem endL_stop {b : Bool} {c : UInt8} {l : List UInt8} (h : inQ b c = false) (h2 : stops c = true) : endL b (c :: l) = 0 := by
  rw [endL, h, h2]; rfl
set_option maxHeartbeats 4000000 in
theorem end_any (s : ByteArray) (w : World) (hs : s.size ≤ 1000000) :
    Calls Tryz.prog 145 #[.string s] w fun x w' => x = .returned (.int .i64 (endL false s.data.toList : Nat)) ∧ w' = w := by
  obtain ⟨l, hl⟩ : ∃ l, l = s.data.toList := ⟨_, rfl⟩
  have hlen : l.length = s.size := by rw [hl]; rfl
  rw [← hl]
  go_enter Tryz.func145, Tryz.ntmps145
  go_wp2_with fail
  go_loopw [3, 7] (fun q i wr => ∃ (k : Nat) (b : Bool), k ≤ l.length ∧ q = .bool b ∧ i = .int .i64 k ∧ wr = w ∧ Hid (endL false l = k + endL b (l.drop k))) (fun _ i _ => l.length - (intOf i).toNat)
  case atStart => exact ⟨0, false, Nat.zero_le _, rfl, rfl, rfl, Lib.hid (by simp)⟩
  case round =>
    obtain ⟨k, b, hk, rfl, rfl, rfl, HI⟩ := hrel
    by_cases hlt : k < l.length
    · have hlts : k < s.size := by omega
      have hlti : (k : Int) < (s.size : Int) := by omega
      have hk0 : (0 : Int) ≤ (k : Int) := by omega
      have hgl : l[k] = s[k] := by simp [hl]; rfl
      have HD : Hid (l.drop k = s[k] :: l.drop (k + 1)) := Lib.hid (by rw [List.drop_eq_getElem_cons hlt, hgl])
      obtain ⟨z, hz⟩ : ∃ z, z = Lib.indexByte [44, 41, 58] s[k] := ⟨_, rfl⟩
      have HS : Hid (∀ W, Calls Tryz.prog 222 #[.string ⟨#[44, 41, 58]⟩, .int .u8 (s[k].toNat : Int)] W fun e w' => e = .returned (.int .i64 z) ∧ w' = W) := Lib.hid fun W => by
        have h := Tryz.strings_IndexByte ⟨#[44, 41, 58]⟩ (s[k].toNat : Int) W
        have e : ((s[k].toNat : Int)).toNat.toUInt8 = s[k] := by simp
        rw [e] at h
        rw [hz]
        exact h
      have HZ : Hid (stops s[k] = decide (0 ≤ z)) := Lib.hid (by rw [hz]; rfl)
      clear hz hgl hl
      by_cases hq : s[k].toNat = 39
      · have e39 : ((s[k].toNat : Int) == 39) = true := by simp [hq]
        have e39n : (s[k].toNat == 39) = true := by simp [hq]
        have HQ : Hid (inQ b s[k] = !b) := Lib.hid (if_pos hq)
        clear hq
        cases b
        · -- in, now
          have HN : Hid (endL false l = (k + 1 : Nat) + endL true (l.drop (k + 1))) := Lib.hid (by rw [HI.out, HD.out, endL_go (show inQ false s[k] = true from HQ.out) (.inl rfl)]; omega)
          clear HI HD HS HZ HQ
          go_wp2_with fail
          go_roundw
          case rel => exact ⟨k + 1, true, by omega, by first | rfl | trivial, by go_num, by first | rfl | trivial, HN⟩
          case measure => simp [intOf]; omega
        · -- out, now
          by_cases hz : 0 ≤ z
          · have HR : Hid (endL false l = k) := Lib.hid (by rw [HI.out, HD.out, endL_stop (show inQ true s[k] = false from HQ.out) (by rw [HZ.out]; exact decide_eq_true hz)]; rfl)
            have dz : decide (0 ≤ z) = true := decide_eq_true hz
            clear HI HD HZ HQ
            go_wp2_with fail
            refine (HS.out _).mono ?_
            rintro x w1 ⟨rfl, rfl⟩
            go_wp2_with fail
            go_ret
            exact ⟨ret_int (by rw [HR.out]), rfl⟩
          · have HN : Hid (endL false l = (k + 1 : Nat) + endL false (l.drop (k + 1))) := Lib.hid (by rw [HI.out, HD.out, endL_go (show inQ true s[k] = false from HQ.out) (.inr (by rw [HZ.out]; exact decide_eq_false hz))]; omega)
            have dz : decide (0 ≤ z) = false := decide_eq_false hz
            clear HI HD HZ HQ
            go_wp2_with fail
            refine (HS.out _).mono ?_
            rintro x w1 ⟨rfl, rfl⟩
            go_wp2_with fail
            go_roundw
            case rel => exact ⟨k + 1, false, by omega, by first | rfl | trivial, by go_num, by first | rfl | trivial, HN⟩
            case measure => simp [intOf]; omega
      · have e39 : ((s[k].toNat : Int) == 39) = false := beq_eq_false_iff_ne.2 (by omega)
        have e39n : (s[k].toNat == 39) = false := beq_eq_false_iff_ne.2 hq
        have HQ : Hid (inQ b s[k] = b) := Lib.hid (if_neg hq)
        clear hq
        cases b
        · -- out
          by_cases hz : 0 ≤ z
          · have HR : Hid (endL false l = k) := Lib.hid (by rw [HI.out, HD.out, endL_stop (show inQ false s[k] = false from HQ.out) (by rw [HZ.out]; exact decide_eq_true hz)]; rfl)
            have dz : decide (0 ≤ z) = true := decide_eq_true hz
            clear HI HD HZ HQ
            go_wp2_with fail
            refine (HS.out _).mono ?_
            rintro x w1 ⟨rfl, rfl⟩
            go_wp2_with fail
            go_ret
            exact ⟨ret_int (by rw [HR.out]), rfl⟩
          · have HN : Hid (endL false l = (k + 1 : Nat) + endL false (l.drop (k + 1))) := Lib.hid (by rw [HI.out, HD.out, endL_go (show inQ false s[k] = false from HQ.out) (.inr (by rw [HZ.out]; exact decide_eq_false hz))]; omega)
            have dz : decide (0 ≤ z) = false := decide_eq_false hz
            clear HI HD HZ HQ
            go_wp2_with fail
            refine (HS.out _).mono ?_
            rintro x w1 ⟨rfl, rfl⟩
            go_wp2_with fail
            go_roundw
            case rel => exact ⟨k + 1, false, by omega, by first | rfl | trivial, by go_num, by first | rfl | trivial, HN⟩
            case measure => simp [intOf]; omega
        · -- in
          have HN : Hid (endL false l = (k + 1 : Nat) + endL true (l.drop (k + 1))) := Lib.hid (by rw [HI.out, HD.out, endL_go (show inQ true s[k] = true from HQ.out) (.inl rfl)]; omega)
          clear HI HD HS HZ HQ
          go_wp2_with fail
          go_roundw
          case rel => exact ⟨k + 1, true, by omega, by first | rfl | trivial, by go_num, by first | rfl | trivial, HN⟩
          case measure => simp [intOf]; omega
    · have hkl : k = l.length := by omega
      have HR : Hid (endL false l = l.length) := Lib.hid (by
        have h := HI.out
        rw [hkl, List.drop_length] at h
        rw [h]; simp [endL])
      have hlf : ¬ ((k : Int) < (s.size : Int)) := by omega
      have hlfn : ¬ (k < s.size) := by omega
      clear HI hl
      go_wp2_with fail
      go_ret
      exact ⟨ret_int (by rw [HR.out, hlen]), rfl⟩
end Go.Proofs.YtdiehgfldndgbaaGreatDoor
namespace Go.Proofs.YtdiehgfldndgbaaGreatDoor
open Go.RowKit

set_option maxHeartbeats 1000000 in
theorem literalP_any (v : V) (w : World) :
    Calls Tryz.prog 84 #[.agg #[.int .i64 v.k, .int .i64 v.n, .string v.s]] w fun x w' => x = .returned (.agg #[.int .i64 3, .int .i64 0, .int .i64 0, .int .i64 v.k, .int .i64 v.k, .int .i64 v.n, .string v.s, .slice none 0 0, .slice none 0 0]) ∧ Below w.heap.size w w' := by
  go_enter Tryz.func84, Tryz.ntmps84
  go_wp2_with fail
  exact bodyPost_ret (v := .agg #[.int .i64 3, .int .i64 0, .int .i64 0, .int .i64 v.k, .int .i64 v.k, .int .i64 v.n, .string v.s, .slice none 0 0, .slice none 0 0]) (by simp [results, Tryz.results84, go_sem]) rfl ⟨rfl, al (al (Below.refl _ _) _) _⟩
theorem kw_miss (j k : Nat) (r : List UInt8) (h1 : 1 ≤ j) (h : j < k) (h3 : k ≤ 3) : Lib.hasPrefix ((kwB k).data.toList ++ r) (kwB j).data.toList = false := by
  have : (j = 1 ∧ k = 2) ∨ (j = 1 ∧ k = 3) ∨ (j = 2 ∧ k = 3) := by omega
  rcases this with ⟨rfl, rfl⟩ | ⟨rfl, rfl⟩ | ⟨rfl, rfl⟩ <;> rfl
set_option maxHeartbeats 2000000 in
theorem kindW_any (g k : Nat) (r : List UInt8) (w : World) (hG : GS w) (hg : 2 ≤ g) (h1 : 1 ≤ k) (h3 : k ≤ 3) (hB : PAt w g ((kwB k).data.toList ++ r)) :
    Calls Tryz.prog 146 #[.pointer (some ⟨g, 0, none⟩)] w fun x w' => x = .returned (.int .i64 (k : Nat)) ∧ But g w w' ∧ PAt w' g r := by
  obtain ⟨l, hl⟩ : ∃ l, l = (kwB k).data.toList ++ r := ⟨_, rfl⟩
  rw [← hl] at hB
  have H0 := Lib.hid (And.intro hG hB)
  have HL := Lib.hid hl
  clear hl hG hB
  go_enter Tryz.func146, Tryz.ntmps146
  go_wp2_with fail
  go_loopw [3] (fun i wr => ∃ j : Nat, 1 ≤ j ∧ j ≤ k ∧ i = .int .i64 j ∧ Hid (But g w wr ∧ PAt wr g l)) (fun i _ => k + 1 - (intOf i).toNat)
  case atStart => exact ⟨1, Nat.le_refl _, h1, rfl, Lib.hid ⟨But.self g w, H0.out.2⟩⟩
  case round =>
    obtain ⟨j, hj1, hjk, rfl, HI⟩ := hrel
    have hj3 : (j : Int) ≤ 3 := by omega
    have hj3n : j ≤ 3 := by omega
    have hj0 : (0 : Int) ≤ (j : Int) := by omega
    have hGr := H0.out.1.but HI.out.1 hg
    have y0 := hGr.knd j hj1 hj3n
    have hlo := hGr.lo
    clear hGr
    by_cases hlt : j < k
    · have HE := Lib.hid (eat_miss g l (kwB j) wr HI.out.2 (by rw [HL.out]; exact kw_miss j k r hj1 hlt h3))
      go_wp2_with fail
      refine HE.out.mono ?_
      rintro x w1 ⟨rfl, hb1, hp1⟩
      have HN := Lib.hid (And.intro (HI.out.1.thn hb1) hp1)
      clear hb1 hp1 y0
      go_wp2_with fail
      go_roundw
      case rel => exact ⟨j + 1, by omega, by omega, by go_num, HN⟩
      case measure => simp [intOf]; omega
    · have hjk2 : j = k := by omega
      subst hjk2
      have HE := Lib.hid (eat_hit g l r (kwB j) wr HI.out.2 HL.out)
      go_wp2_with fail
      refine HE.out.mono ?_
      rintro x w1 ⟨rfl, hb1, hp1⟩
      have HN := Lib.hid (And.intro (HI.out.1.thn hb1) hp1)
      clear hb1 hp1 y0
      go_wp2_with fail
      go_ret
      exact ⟨rfl, HN.out⟩
end Go.Proofs.YtdiehgfldndgbaaGreatDoor
