/-
  WrL: CONTRACT of scalar.written: the string of an expression that has been checked.
  PsV: CONTRACT of the parser's literal: a value that is not null.
  Lst: CONTRACT of the parser's list: items with commas between, up to the bracket behind the last one.
  Wrt: CONTRACT of scalar.written: the string of an expression that has been checked.
  StP: CONTRACT of scalar.String.
  KnK: CONTRACT of scalar.Kind.
  Thr: CONTRACTS of scalar.through with the closure of Columns: the numbers of all columns, put out in order.
-/
import Derived.Test.YtdiehgfldndgbaaGreatDoorGA17
import Derived.Test.YtdiehgfldndgbaaGreatDoorGA01
import Derived.Test.YtdiehgfldndgbaaGreatDoorGA14
import Derived.Deep.DeepCutAuto
import Derived.Test.YtdiehgfldndgbaaGreatDoorGA10
import Derived.Test.YtdiehgfldndgbaaGreatDoorGA11
import Derived.Test.YtdiehgfldndgbaaGreatDoorGA07
import Derived.Test.YtdiehgfldndgbaaGreatDoorGA06
namespace Go.Proofs.YtdiehgfldndgbaaGreatDoor
open Go.RowKit Go.Deep

theorem isNullV_any (v : V) (w : World) : Calls Tryz.prog 109 #[.agg #[.int .i64 v.k, .int .i64 v.n, .string v.s]] w fun e w' => e = .returned (.bool (v.k == 0)) ∧ Below w.heap.size w w' := by
  go_enter Tryz.func109, Tryz.ntmps109
  go_wp2_with fail
  go_ret
  exact ⟨rfl, al (Below.refl _ _) _⟩
/-- a string is this list of bytes -/
theorem ret_ba {a : ByteArray} {l : List UInt8} (h : a.data.toList = l) : Ending.returned (.string a) = .returned (.string ⟨l.toArray⟩) := by
  rw [← h]
set_option maxHeartbeats 4000000 in
set_option maxRecDepth 100000 in
theorem written_leaf (e : E) (A R : Option Addr) (c d : Nat) (w : World) (hG : GG w) (hI : EIn e) (hnode : e.node = true) (h4 : e.op < 4) :
    Calls Tryz.prog 72 #[e.val A c R d] w fun x w' => x = .returned (.string ⟨(strE e).toArray⟩) ∧ Below w.heap.size w w' := by
  have HI := Lib.hid (And.intro hI (And.intro hG hnode))
  have HE : Hid (strE e = leafB e.op e.n e.m e.kind e.lit) := Lib.hid (by rw [strE_of, if_pos h4])
  have hT : Hid (∀ n w1, I64 n → Below w.heap.size w w1 → Calls Tryz.prog 107 #[.int .i64 n] w1 fun e w' => e = .returned (.string ⟨(Lib.itoa n).toArray⟩) ∧ Below w1.heap.size w1 w') := Lib.hid fun n w1 hn hb => itoaE_any n hn w1 (hG.thn hb).g
  have hn := node_cases hnode
  clear hI hG hnode
  unfold E.val
  rcases hn.2 with ⟨ho, r1, r2⟩ | ⟨ho, r1, r2, r3⟩ | ⟨ho, hk, hok, hlk, r1⟩ | ⟨ho, r1⟩
  · have HL : Hid (strE e = 36 :: Lib.itoa e.n) := Lib.hid (by rw [HE.out]; unfold leafB; rw [if_pos ho])
    rw [ho]
    clear hn h4 HE ho r1 r2
    obtain ⟨s1, hs1⟩ : ∃ s : ByteArray, s = ⟨(Lib.itoa e.n).toArray⟩ := ⟨_, rfl⟩
    have hz1 : s1.size ≤ 20 := by rw [hs1]; exact (itoa_len e.n HI.out.1.nums.2.1).1
    have H1 : Hid (s1.data.toList = Lib.itoa e.n) := Lib.hid (by rw [hs1])
    have HX := hT.out e.n _ HI.out.1.nums.2.1 (al (Below.refl w.heap.size w) (.cells #[.int .i64 1, .int .i64 e.n, .int .i64 e.m, .int .i64 e.kind, .int .i64 e.lit.k, .int .i64 e.lit.n, .string e.lit.s, .slice A e.args.length c, .slice R e.rels.length d] 30))
    rw [← hs1] at HX
    have HX := Lib.hid HX
    clear hs1
    go_enter Tryz.func72, Tryz.ntmps72
    go_wp2_with fail
    refine HX.out.mono ?_
    rintro x w2 ⟨rfl, hb2⟩
    have H2 := Lib.hid (thn (al (Below.refl _ _) _) hb2)
    clear hb2
    go_wp2_with fail
    go_ret
    exact ⟨by rw [HL.out]; exact ret_ba (by simp [H1.out]), H2.out⟩
  · have HL : Hid (strE e = 94 :: (Lib.itoa e.n ++ 46 :: Lib.itoa e.m)) := Lib.hid (by rw [HE.out]; unfold leafB; rw [if_neg (by omega), if_pos ho])
    rw [ho]
    clear hn h4 HE ho r1 r2 r3
    obtain ⟨s1, hs1⟩ : ∃ s : ByteArray, s = ⟨(Lib.itoa e.n).toArray⟩ := ⟨_, rfl⟩
    have hz1 : s1.size ≤ 20 := by rw [hs1]; exact (itoa_len e.n HI.out.1.nums.2.1).1
    have H1 : Hid (s1.data.toList = Lib.itoa e.n) := Lib.hid (by rw [hs1])
    obtain ⟨s2, hs2⟩ : ∃ s : ByteArray, s = ⟨(Lib.itoa e.m).toArray⟩ := ⟨_, rfl⟩
    have hz2 : s2.size ≤ 20 := by rw [hs2]; exact (itoa_len e.m HI.out.1.nums.2.2.1).1
    have H2s : Hid (s2.data.toList = Lib.itoa e.m) := Lib.hid (by rw [hs2])
    have HS1 := Lib.hid hs1
    have HS2 := Lib.hid hs2
    clear hs1 hs2
    go_enter Tryz.func72, Tryz.ntmps72
    go_upto_region 5 with fail
    have B0 := Blk.new w 30 #[.int .i64 2, .int .i64 e.n, .int .i64 e.m, .int .i64 e.kind, .int .i64 e.lit.k, .int .i64 e.lit.n, .string e.lit.s, .slice A e.args.length c, .slice R e.rels.length d]
    have HB := Lib.hid B0
    have c1 : ∀ x : Aft (w.alloc (.cells #[.int .i64 2, .int .i64 e.n, .int .i64 e.m, .int .i64 e.kind, .int .i64 e.lit.k, .int .i64 e.lit.n, .string e.lit.s, .slice A e.args.length c, .slice R e.rels.length d] 30)), x.w.cell? ⟨w.heap.size, 1, none⟩ = some (.int .i64 e.n) := fun x => (x.h.cell (p := ⟨w.heap.size, 1, none⟩) HB.out.lt).trans (HB.out.cell 1)
    have c2 : ∀ x : Aft (w.alloc (.cells #[.int .i64 2, .int .i64 e.n, .int .i64 e.m, .int .i64 e.kind, .int .i64 e.lit.k, .int .i64 e.lit.n, .string e.lit.s, .slice A e.args.length c, .slice R e.rels.length d] 30)), x.w.cell? ⟨w.heap.size, 2, none⟩ = some (.int .i64 e.m) := fun x => (x.h.cell (p := ⟨w.heap.size, 2, none⟩) HB.out.lt).trans (HB.out.cell 2)
    have HX : Hid (∀ x : Aft (w.alloc (.cells #[.int .i64 2, .int .i64 e.n, .int .i64 e.m, .int .i64 e.kind, .int .i64 e.lit.k, .int .i64 e.lit.n, .string e.lit.s, .slice A e.args.length c, .slice R e.rels.length d] 30)), Calls Tryz.prog 107 #[.int .i64 e.n] x.w fun y w' => y = .returned (.string s1) ∧ Below x.w.heap.size x.w w') := Lib.hid fun x => HS1.out ▸ hT.out _ _ HI.out.1.nums.2.1 (thn (al (Below.refl _ _) _) x.h)
    have HY : Hid (∀ x : Aft (w.alloc (.cells #[.int .i64 2, .int .i64 e.n, .int .i64 e.m, .int .i64 e.kind, .int .i64 e.lit.k, .int .i64 e.lit.n, .string e.lit.s, .slice A e.args.length c, .slice R e.rels.length d] 30)), Calls Tryz.prog 107 #[.int .i64 e.m] x.w fun y w' => y = .returned (.string s2) ∧ Below x.w.heap.size x.w w') := Lib.hid fun x => HS2.out ▸ hT.out _ _ HI.out.1.nums.2.2.1 (thn (al (Below.refl _ _) _) x.h)
    clear B0
    refine region_aft (by kernel_rfl) (by kernel_rfl) ?_
    repeat (go_big_quiet_step (first | (with_reducible exact aft_call (HX.out _)) | (with_reducible exact aft_call (HY.out _))))
    refine wpQuiet_nil ?_
    intro x9
    have H2 := Lib.hid (thn (al (Below.refl _ _) _) x9.h)
    clear HX HY c1 c2
    go_wp2_with fail
    go_ret
    exact ⟨by rw [HL.out]; exact ret_ba (by simp [H1.out, H2s.out]), H2.out⟩
  · have hs3 : ∀ w1, Below w.heap.size w w1 → Calls Tryz.prog 108 #[.agg #[.int .i64 e.lit.k, .int .i64 e.lit.n, .string e.lit.s]] w1 fun x w' => x = .returned (.tuple #[.string ⟨(strB e.lit.k e.lit.n e.lit.s).toArray⟩, .int .i64 0]) ∧ Below w1.heap.size w1 w' := fun w1 hb => String_right e.lit.k e.lit.n e.lit.s w1 (HI.out.2.1.thn hb).g hok HI.out.1.nums.2.2.2.2.2.1
    have HS := Lib.hid hs3
    rw [ho]
    cases hz : (e.lit.k == 0) with
    | true =>
      have hz0 : e.lit.k = 0 := by simpa using hz
      have HL : Hid (strE e = [110, 117, 108, 108, 58] ++ (kwB e.kind).data.toList ∧ strB e.lit.k e.lit.n e.lit.s = [110, 117, 108, 108]) := Lib.hid ⟨by rw [HE.out]; unfold leafB; rw [if_neg (by omega), if_neg (by omega), if_pos hz0], by unfold strB; rw [if_neg (by omega), if_neg (by omega), hz0]; rfl⟩
      obtain ⟨q, hq, hq1, hq3⟩ : ∃ q : Nat, e.kind = q ∧ 1 ≤ q ∧ q ≤ 3 := by
        rcases hk with h | h | h
        · exact ⟨1, h, by decide, by decide⟩
        · exact ⟨2, h, by decide, by decide⟩
        · exact ⟨3, h, by decide, by decide⟩
      rw [HL.out.2] at HS
      have HK : Hid (∀ w1, Below w.heap.size w w1 → w1.cell? ⟨1, q, none⟩ = some (.string (kwB q)) ∧ 2 ≤ w1.heap.size) := Lib.hid fun w1 hb => ⟨(HI.out.2.1.thn hb).s.knd q hq1 hq3, (HI.out.2.1.thn hb).s.lo⟩
      obtain ⟨kw, hkw⟩ : ∃ s : ByteArray, s = kwB q := ⟨_, rfl⟩
      have hkz : kw.size ≤ 4 := by rw [hkw]; exact kwB_len q
      rw [← hkw] at HK
      have HKw := Lib.hid hkw
      clear hkw
      have HNl : Hid (∀ w1, Calls Tryz.prog 109 #[.agg #[.int .i64 e.lit.k, .int .i64 e.lit.n, .string e.lit.s]] w1 fun x w' => x = .returned (.bool true) ∧ Below w1.heap.size w1 w') := Lib.hid fun w1 => by
        have := isNullV_any e.lit w1
        rw [hz] at this
        exact this
      rw [hq] at HL ⊢
      clear hn h4 HE ho hok hlk hk hs3 hz hz0 r1 hq
      go_enter Tryz.func72, Tryz.ntmps72
      go_wp2_with fail
      have HB := Lib.hid (Blk.new w 30 #[.int .i64 3, .int .i64 e.n, .int .i64 e.m, .int .i64 (q : Nat), .int .i64 e.lit.k, .int .i64 e.lit.n, .string e.lit.s, .slice A e.args.length c, .slice R e.rels.length d])
      refine (HS.out _ (al (Below.refl _ _) _)).mono ?_
      rintro x w2 ⟨rfl, hb2⟩
      have H2 := Lib.hid (And.intro (thn (al (Below.refl _ _) _) hb2) (HB.out.below hb2 HB.out.lt))
      have k4 := H2.out.2.cell 4
      have k5 := H2.out.2.cell 5
      have k6 := H2.out.2.cell 6
      simp only [List.getElem?_toArray, List.getElem?_cons_succ, List.getElem?_cons_zero] at k4 k5 k6
      clear hb2
      go_wp2_with fail
      refine (HNl.out _).mono ?_
      rintro x w3 ⟨rfl, hb3⟩
      have H3 := Lib.hid (And.intro (thn H2.out.1 hb3) (H2.out.2.below hb3 H2.out.2.lt))
      have j3 := H3.out.2.cell 3
      simp only [List.getElem?_toArray, List.getElem?_cons_succ, List.getElem?_cons_zero] at j3
      obtain ⟨g0, g1⟩ := HK.out _ H3.out.1
      clear hb3 k4 k5 k6
      go_wp2_with fail
      go_ret
      exact ⟨by rw [HL.out.1]; exact ret_ba (by simp [HKw.out]), H3.out.1⟩
    | false =>
      have hz0 : ¬ e.lit.k = 0 := by simpa using hz
      have HL : Hid (strE e = strB e.lit.k e.lit.n e.lit.s) := Lib.hid (by rw [HE.out]; unfold leafB; rw [if_neg (by omega), if_neg (by omega), if_neg hz0])
      have HNl : Hid (∀ w1, Calls Tryz.prog 109 #[.agg #[.int .i64 e.lit.k, .int .i64 e.lit.n, .string e.lit.s]] w1 fun x w' => x = .returned (.bool false) ∧ Below w1.heap.size w1 w') := Lib.hid fun w1 => by
        have := isNullV_any e.lit w1
        rw [hz] at this
        exact this
      generalize strB e.lit.k e.lit.n e.lit.s = sb at *
      clear hn h4 HE ho hok hlk hk hs3 hz hz0 r1
      go_enter Tryz.func72, Tryz.ntmps72
      go_wp2_with fail
      have HB := Lib.hid (Blk.new w 30 #[.int .i64 3, .int .i64 e.n, .int .i64 e.m, .int .i64 e.kind, .int .i64 e.lit.k, .int .i64 e.lit.n, .string e.lit.s, .slice A e.args.length c, .slice R e.rels.length d])
      refine (HS.out _ (al (Below.refl _ _) _)).mono ?_
      rintro x w2 ⟨rfl, hb2⟩
      have H2 := Lib.hid (And.intro (thn (al (Below.refl _ _) _) hb2) (HB.out.below hb2 HB.out.lt))
      have k4 := H2.out.2.cell 4
      have k5 := H2.out.2.cell 5
      have k6 := H2.out.2.cell 6
      simp only [List.getElem?_toArray, List.getElem?_cons_succ, List.getElem?_cons_zero] at k4 k5 k6
      clear hb2
      go_wp2_with fail
      refine (HNl.out _).mono ?_
      rintro x w3 ⟨rfl, hb3⟩
      have H3 := Lib.hid (thn H2.out.1 hb3)
      clear hb3 k4 k5 k6
      go_wp2_with fail
      go_ret
      exact ⟨by rw [HL.out]; rfl, H3.out⟩
  · exact absurd h4 (by omega)
end Go.Proofs.YtdiehgfldndgbaaGreatDoor
namespace Go.Proofs.YtdiehgfldndgbaaGreatDoor
open Go.RowKit

theorem But.low {g B : Nat} {w w' : World} (h : But g w w') (hB : B ≤ g) (hw : B ≤ w.heap.size) : Below B w w' := ⟨h.os, h.tape, h.output, h.size, fun i hi => h.block i (by omega) (by intro e; injection e with e; omega)⟩
theorem But.far {g b : Nat} {w w1 w2 : World} (h : But g w w1) (k : But b w1 w2) (hb : w.heap.size ≤ b) : But g w w2 := ⟨k.os.trans h.os, k.tape.trans h.tape, k.output.trans h.output, Nat.le_trans h.size k.size, fun i hi hne => (k.block i (Nat.lt_of_lt_of_le hi h.size) (by intro e; injection e with e; omega)).trans (h.block i hi hne)⟩
theorem GE.but {g : Nat} {w w' : World} (h : GE w) (hb : But g w w') (hg : 9 ≤ g) : GE w' := h.below (hb.low hg h.g.big) (Nat.le_refl 9)
set_option maxHeartbeats 4000000 in
set_option maxRecDepth 100000 in
theorem parseLit_any (v : V) (t : List UInt8) (g : Nat) (w : World) (hv : v.ok = true) (hI : I64 v.n) (h0 : v.k ≠ 0) (ht : ∀ c r, t = c :: r → c.toNat ≠ 39 ∧ stops c = true) (hG : GE w) (hg : 9 ≤ g) (hB : PAt w g (strB v.k v.n v.s ++ t)) (hn : (strB v.k v.n v.s ++ t).length ≤ 1000000) :
    Calls Tryz.prog 100 #[.pointer (some ⟨g, 0, none⟩)] w fun x w' => x = .returned (.agg #[.int .i64 3, .int .i64 0, .int .i64 0, .int .i64 v.k, .int .i64 v.k, .int .i64 v.n, .string v.s, .slice none 0 0, .slice none 0 0]) ∧ But g w w' ∧ PAt w' g t := by
  have hgl : g < w.heap.size := Blk.lt hB
  obtain ⟨sl, hsl⟩ : ∃ l, l = strB v.k v.n v.s := ⟨_, rfl⟩
  have hend := end_strB v hv t ht
  have hlen := strB_len v.k v.n v.s hv hI
  have hps := parses_strB v.k v.n v.s hv hI
  have hrd := readV_strB v.k v.n v.s hv hI
  rw [← hsl] at hend hlen hps hrd hB hn
  obtain ⟨s, hs⟩ : ∃ s : ByteArray, s = ⟨(sl ++ t).toArray⟩ := ⟨_, rfl⟩
  have HEnd : Hid (∀ W, Calls Tryz.prog 145 #[.string s] W fun x w' => x = .returned (.int .i64 (sl.length : Nat)) ∧ w' = W) := Lib.hid fun W => by
    have h := end_any s W (by rw [hs]; show (sl ++ t).toArray.size ≤ _; simpa using hn)
    rw [show s.data.toList = sl ++ t by rw [hs]] at h
    rw [hend] at h
    exact h
  have HTk : Hid (∀ W, PAt W g (sl ++ t) → Calls Tryz.prog 142 #[.pointer (some ⟨g, 0, none⟩), .int .i64 (sl.length : Nat)] W fun x w' => x = .returned (.string ⟨sl.toArray⟩) ∧ But g W w' ∧ PAt w' g t) := Lib.hid fun W h => take_any g sl t W h hn
  have HPs : Hid (∀ W, GE W → Calls Tryz.prog 144 #[.string ⟨sl.toArray⟩] W fun x w' => x = .returned (.tuple #[.agg #[.int .i64 v.k, .int .i64 v.n, .string v.s], .int .i64 0]) ∧ Below W.heap.size W w') := Lib.hid fun W h => by
    have k := Parse_yes ⟨sl.toArray⟩ W h (by omega) hps
    rw [hrd] at k
    exact k
  have HW0 : Hid (∀ o, But g w (w.alloc o) ∧ PAt (w.alloc o) g (sl ++ t) ∧ GE (w.alloc o)) := Lib.hid fun o => ⟨World.grownBy_alloc w o _, hB.below (al (Below.refl _ _) _), hG.thn (al (Below.refl _ _) _)⟩
  unfold PAt at hB
  rw [← hs] at hB
  have c0 := hB.cell 0
  simp only [List.getElem?_toArray, List.getElem?_cons_zero] at c0
  have hk0 : (v.k == 0) = false := beq_eq_false_iff_ne.2 h0
  have HN := Lib.hid (fun W => isNullV_any v W)
  rw [hk0] at HN
  have HLi := Lib.hid (fun W => literalP_any v W)
  clear hend hlen hps hrd hsl hB hG hn hv hI ht hs
  go_enter Tryz.func100, Tryz.ntmps100
  go_wp2_with fail
  refine (HEnd.out _).mono ?_
  rintro x w1 ⟨rfl, rfl⟩
  go_wp2_with fail
  refine (HTk.out _ (HW0.out _).2.1).mono ?_
  rintro x w2 ⟨rfl, hb2, hp2⟩
  have HB2 := Lib.hid (Blk.new' (w := w) (g := w.heap.size) (t := 30) (cs := #[.int .i64 0, .int .i64 0, .int .i64 0, .int .i64 0, .int .i64 0, .int .i64 0, .string ⟨#[]⟩, .slice none 0 0, .slice none 0 0]) rfl)
  have H2 := Lib.hid (And.intro ((HW0.out _).1.thn hb2) (And.intro hp2 (And.intro ((HW0.out _).2.2.but hb2 hg) (HB2.out.grown hb2 (by intro e; injection e with e; omega)))))
  clear hb2 hp2
  go_wp2_with fail
  refine (HPs.out _ H2.out.2.2.1).mono ?_
  rintro x w3 ⟨rfl, hb3⟩
  have H3 := Lib.hid (And.intro (H2.out.1.thn (But.of hb3)) (And.intro (H2.out.2.1.below hb3) (H2.out.2.2.2.below hb3 H2.out.2.2.2.lt)))
  clear hb3
  go_wp2_with fail
  refine (HN.out _).mono ?_
  rintro x w4 ⟨rfl, hb4⟩
  have hV := Blk.new w3 27 #[.int .i64 v.k, .int .i64 v.n, .string v.s]
  have h34 : Below w3.heap.size w3 w4 := thn (al (Below.refl _ _) _) hb4
  have H4 := Lib.hid (And.intro (H3.out.1.thn (But.of h34)) (And.intro (H3.out.2.1.below h34) (And.intro (H3.out.2.2.below h34 H3.out.2.2.lt) (hV.below hb4 hV.lt))))
  clear hb4 hV h34
  have a0 := H4.out.2.2.2
  have x0 := a0.cell 0
  have x1 := a0.cell 1
  have x2 := a0.cell 2
  simp only [List.getElem?_toArray, List.getElem?_cons_succ, List.getElem?_cons_zero] at x0 x1 x2
  clear a0
  go_wp2_with fail
  refine (HLi.out _).mono ?_
  rintro x w5 ⟨rfl, hb5⟩
  have H5 := Lib.hid (And.intro (H4.out.1.thn (But.of hb5)) (And.intro (H4.out.2.1.below hb5) (H4.out.2.2.1.below hb5 H4.out.2.2.1.lt)))
  clear hb5 x0 x1 x2
  have hBr := H5.out.2.2
  have hBl := hBr.lt
  have f0 := hBr.frozen 0
  have d0 := hBr.cell 0
  have f1 := hBr.frozen 1
  have d1 := hBr.cell 1
  have f2 := hBr.frozen 2
  have d2 := hBr.cell 2
  have f3 := hBr.frozen 3
  have d3 := hBr.cell 3
  have f4 := hBr.frozen 4
  have d4 := hBr.cell 4
  have f5 := hBr.frozen 5
  have d5 := hBr.cell 5
  have f6 := hBr.frozen 6
  have d6 := hBr.cell 6
  have f7 := hBr.frozen 7
  have d7 := hBr.cell 7
  have f8 := hBr.frozen 8
  have d8 := hBr.cell 8
  simp only [List.getElem?_toArray, List.getElem?_cons_succ, List.getElem?_cons_zero] at d0 d1 d2 d3 d4 d5 d6 d7 d8
  have HB := (((((((((H5.out.2.2.set_ 0 (.int .i64 3)).set_ 1 (.int .i64 0)).set_ 2 (.int .i64 0)).set_ 3 (.int .i64 v.k)).set_ 4 (.int .i64 v.k)).set_ 5 (.int .i64 v.n)).set_ 6 (.string v.s)).set_ 7 (.slice none 0 0)).set_ 8 (.slice none 0 0))
  have HBt := (((((((((H5.out.1.far (grown_set _ w.heap.size 0 (.int .i64 3)) (Nat.le_refl _)).far (grown_set _ w.heap.size 1 (.int .i64 0)) (Nat.le_refl _)).far (grown_set _ w.heap.size 2 (.int .i64 0)) (Nat.le_refl _)).far (grown_set _ w.heap.size 3 (.int .i64 v.k)) (Nat.le_refl _)).far (grown_set _ w.heap.size 4 (.int .i64 v.k)) (Nat.le_refl _)).far (grown_set _ w.heap.size 5 (.int .i64 v.n)) (Nat.le_refl _)).far (grown_set _ w.heap.size 6 (.string v.s)) (Nat.le_refl _)).far (grown_set _ w.heap.size 7 (.slice none 0 0)) (Nat.le_refl _)).far (grown_set _ w.heap.size 8 (.slice none 0 0)) (Nat.le_refl _))
  have HPt : PAt (((((((((w5.setCell ⟨w.heap.size, 0, none⟩ (.int .i64 3)).setCell ⟨w.heap.size, 1, none⟩ (.int .i64 0)).setCell ⟨w.heap.size, 2, none⟩ (.int .i64 0)).setCell ⟨w.heap.size, 3, none⟩ (.int .i64 v.k)).setCell ⟨w.heap.size, 4, none⟩ (.int .i64 v.k)).setCell ⟨w.heap.size, 5, none⟩ (.int .i64 v.n)).setCell ⟨w.heap.size, 6, none⟩ (.string v.s)).setCell ⟨w.heap.size, 7, none⟩ (.slice none 0 0)).setCell ⟨w.heap.size, 8, none⟩ (.slice none 0 0)) g t := (Blk.grown (Blk.grown (Blk.grown (Blk.grown (Blk.grown (Blk.grown (Blk.grown (Blk.grown (Blk.grown H5.out.2.1 (grown_set _ w.heap.size 0 (.int .i64 3)) (by intro e; injection e with e; omega)) (grown_set _ w.heap.size 1 (.int .i64 0)) (by intro e; injection e with e; omega)) (grown_set _ w.heap.size 2 (.int .i64 0)) (by intro e; injection e with e; omega)) (grown_set _ w.heap.size 3 (.int .i64 v.k)) (by intro e; injection e with e; omega)) (grown_set _ w.heap.size 4 (.int .i64 v.k)) (by intro e; injection e with e; omega)) (grown_set _ w.heap.size 5 (.int .i64 v.n)) (by intro e; injection e with e; omega)) (grown_set _ w.heap.size 6 (.string v.s)) (by intro e; injection e with e; omega)) (grown_set _ w.heap.size 7 (.slice none 0 0)) (by intro e; injection e with e; omega)) (grown_set _ w.heap.size 8 (.slice none 0 0)) (by intro e; injection e with e; omega))
  clear hBr
  go_wp2_with fail
  have k0 := HB.cell 0
  have k1 := HB.cell 1
  have k2 := HB.cell 2
  have k3 := HB.cell 3
  have k4 := HB.cell 4
  have k5 := HB.cell 5
  have k6 := HB.cell 6
  have k7 := HB.cell 7
  have k8 := HB.cell 8
  simp at k0 k1 k2 k3 k4 k5 k6 k7 k8
  exact bodyPost_ret (v := .agg #[.int .i64 3, .int .i64 0, .int .i64 0, .int .i64 v.k, .int .i64 v.k, .int .i64 v.n, .string v.s, .slice none 0 0, .slice none 0 0]) (by simp [results, Tryz.results100, go_sem, k0, k1, k2, k3, k4, k5, k6, k7, k8]) rfl ⟨rfl, HBt, HPt⟩
end Go.Proofs.YtdiehgfldndgbaaGreatDoor
namespace Go.Proofs.YtdiehgfldndgbaaGreatDoor
open Go.RowKit Go.Deep

/-- what is behind an argument: a bracket, or a comma and the next one -/
def tailS : List E → List UInt8 → List UInt8
  | [], t => 41 :: t
  | e :: l, t => 44 :: 32 :: (strE e ++ tailS l t)
theorem tail_join : ∀ (l : List E) (e : E) (t : List UInt8), joinS ((e :: l).map strE) ++ 41 :: t = strE e ++ tailS l t
  | [], e, t => by simp [joinS, tailS]
  | f :: l, e, t => by
    have ih := tail_join l f t
    rw [List.map_cons] at ih
    rw [List.map_cons, List.map_cons, joinS, tailS, ← ih]
    simp
/-- what may stand behind an expression -/
def Stp (t : List UInt8) : Prop := ∀ c r, t = c :: r → c = 44 ∨ c = 41
theorem Stp.tail (l : List E) (t : List UInt8) : Stp (tailS l t) := by
  intro c r h
  cases l with
  | nil => rw [tailS] at h; injection h with h _; exact .inr h.symm
  | cons e l => rw [tailS] at h; injection h with h _; exact .inl h.symm
theorem tail_len : ∀ (l : List E) (t : List UInt8) (j : Nat), (tailS (l.drop j) t).length ≤ (tailS l t).length
  | l, _, 0 => by simp
  | [], _, j + 1 => by simp
  | e :: l, t, j + 1 => by
    have := tail_len l t j
    rw [List.drop_succ_cons, tailS, List.length_cons, List.length_cons, List.length_append]
    omega
/-- the first element, in a block of its own -/
theorem CArgs.one {w w1 : World} {h : HE} (hb : w.heap.size ≤ w1.heap.size) (hok : h.ok w1 (fun b => w.heap.size ≤ b ∧ b < w1.heap.size)) :
    CArgs w.heap.size (w1.alloc (.cells h.cells.toArray 30)) (.slice (some ⟨w1.heap.size, 0, none⟩) 1 1) [h] := by
  have hc : h.cells.length = 9 := rfl
  refine ⟨⟨hcells_len [h], .inr ⟨w1.heap.size, 1, h.cells.toArray, rfl, hb, heap_alloc_new w1 _, Nat.le_refl _, by unfold maxLen; omega, by simp [hc], ?_⟩⟩, fun x hx => ?_⟩
  · have e : hcells [h] = h.cells := by unfold hcells; simp
    rw [e]
    simp only [List.length_cons, List.length_nil, Nat.zero_add, Nat.one_mul]
    exact List.take_of_length_le (by simp [hc])
  · rw [List.mem_singleton] at hx
    subst hx
    refine hok.kept (fun b hb2 => Below.heap_alloc w1 _ b hb2.2) fun b hb2 => ⟨hb2.1, by simp; omega, fun e => ?_⟩
    injection e with e
    have := hb2.2
    simp at e
    omega
/-- one element more -/
theorem CArgs.more {base g : Nat} {wr w2 w4 : World} {v v' : Value} {hs : List HE} {h : HE} {o1 : Obj} (k : CArgs base wr v hs) (hb : But g wr w2) (hgb : g < base) (hbase : base ≤ wr.heap.size) (hok : h.ok w2 (fun b => wr.heap.size ≤ b ∧ b < w2.heap.size))
    (ho : w4.ownsRow base 30 9 v' (hs.length + 1) (hcells hs ++ hcells [h])) (hg : (w2.alloc o1).grownBy w4 v.ownBlock) (hv : v'.ownBlock = v.ownBlock ∨ v'.ownBlock = some (w2.alloc o1).heap.size) :
    CArgs base w4 v' (hs ++ [h]) := by
  have hs3 : (w2.alloc o1).heap.size = w2.heap.size + 1 := by simp
  have hs4 := hg.size
  have hs2 := hb.size
  have hal : ∀ b, b < w2.heap.size → (w2.alloc o1).heap[b]? = w2.heap[b]? := fun b hb => Below.heap_alloc w2 o1 b hb
  have hvb : ∀ g, v.ownBlock = some g → base ≤ g ∧ g < wr.heap.size := fun g hg => k.1.lt g hg
  refine ⟨by rw [hcells_append, List.length_append]; exact ho, fun x hx => ?_⟩
  rcases List.mem_append.1 hx with hx | hx
  · refine (k.2 x hx).kept (fun b hb2 => ?_) fun b hb2 => ?_
    · obtain ⟨h1, h2, h3⟩ := hb2
      rw [hg.block b (by omega) h3, hal b (by omega)]
      exact hb.block b h2 (by intro e; injection e with e; omega)
    · obtain ⟨h1, h2, h3⟩ := hb2
      refine ⟨h1, by omega, ?_⟩
      rcases hv with e | e
      · rw [e]; exact h3
      · rw [e]
        intro e2
        injection e2 with e2
        omega
  · rw [List.mem_singleton] at hx
    subst hx
    refine hok.kept (fun b hb2 => ?_) fun b hb2 => ?_
    · have hne : some b ≠ v.ownBlock := fun e => by
        have := (hvb b e.symm).2
        omega
      rw [hg.block b (by omega) hne, hal b (by omega)]
    · refine ⟨by omega, by omega, ?_⟩
      rcases hv with e | e
      · rw [e]; intro e2; have := (hvb b e2.symm).2; omega
      · rw [e]
        intro e2
        injection e2 with e2
        omega
/-- the length of a slice -/
def lenV : Value → Nat
  | .slice _ n _ => n
  | _ => 0
theorem CArgs.but {base g : Nat} {wr w2 : World} {v : Value} {hs : List HE} (k : CArgs base wr v hs) (hb : But g wr w2) (hg : g < base) : CArgs base w2 v hs :=
  ⟨k.1.kept (row := some g) hb (by
    cases hv : v.ownBlock with
    | none => exact .inl rfl
    | some b =>
      refine .inr fun e => ?_
      injection e with e
      have := (k.1.lt b hv).1
      omega), fun x hx => (k.2 x hx).kept (fun b h => hb.block b h.2.1 (by intro e; injection e with e; have := h.1; omega)) fun b h => ⟨h.1, Nat.lt_of_lt_of_le h.2.1 hb.size, h.2.2⟩⟩
theorem But.app {g : Nat} {w w4 w5 : World} {o : Obj} {row : Option Nat} (h : But g w w4) (hg : (w4.alloc o).grownBy w5 row) (hr : ∀ b, row = some b → w.heap.size ≤ b) : But g w w5 := by
  have k := World.grownBy_alloc w4 o (some g)
  refine ⟨hg.os.trans (k.os.trans h.os), hg.tape.trans (k.tape.trans h.tape), hg.output.trans (k.output.trans h.output), Nat.le_trans (Nat.le_trans h.size k.size) hg.size, fun i hi hne => ?_⟩
  have h1 := h.size
  have h2 := k.size
  rw [hg.block i (by omega) (fun e => by have := hr i e.symm; omega), Below.heap_alloc w4 o i (by omega)]
  exact h.block i hi hne
/-- what the item that is read next leaves -/
abbrev ItemAt (F : FuncId) (g : Nat) (x : E) (r : List UInt8) (w1 : World) : Prop :=
  Calls Tryz.prog F #[.pointer (some ⟨g, 0, none⟩)] w1 fun y w' => ∃ h : HE, h.e = x ∧ y = .returned h.val ∧ But g w1 w' ∧ PAt w' g r ∧ h.ok w' (fun b => w1.heap.size ≤ b ∧ b < w'.heap.size)
set_option maxHeartbeats 4000000 in
set_option maxRecDepth 100000 in
theorem list_any (F : FuncId) (e : E) (l : List E) (t : List UInt8) (g : Nat) (w : World) (hB : PAt w g (strE e ++ tailS l t)) (hl : l.length ≤ 100000) (hn : (strE e ++ tailS l t).length ≤ 1000000)
    (hF : ∀ args W, (callFunc F args).run Tryz.prog W = .ok (.enter F args) W)
    (hcall : ∀ x ∈ e :: l, ∀ r w1, Stp r → But g w w1 → PAt w1 g (strE x ++ r) → (strE x ++ r).length ≤ 1000000 → ItemAt F g x r w1) :
    Calls Tryz.prog 99 #[.pointer (some ⟨g, 0, none⟩), .func (.func F) #[.pointer (some ⟨g, 0, none⟩)] #[]] w fun x w' => ∃ (v : Value) (hs : List HE), x = .returned v ∧ hs.map HE.e = e :: l ∧ CArgs w.heap.size w' v hs ∧ But g w w' ∧ PAt w' g t := by
  have hgl : g < w.heap.size := Blk.lt hB
  have HC := Lib.hid hcall
  have HB := Lib.hid hB
  have H1 := Lib.hid (hcall e (List.mem_cons_self ..) (tailS l t) w (Stp.tail l t) (But.self g w) hB hn)
  clear hcall hB
  go_enter Tryz.func99, Tryz.ntmps99
  go_wp2_with fail
  refine H1.out.mono ?_
  rintro x w1 ⟨h, he, rfl, hb1, hp1, hok⟩
  have hs1 := hb1.size
  have hp2 : PAt (w1.alloc (.cells h.cells.toArray 30)) g (tailS l t) := Blk.alloc hp1 _
  have H2 : Hid ([h].map HE.e = e :: l.take 0 ∧ CArgs w.heap.size (w1.alloc (.cells h.cells.toArray 30)) (.slice (some ⟨w1.heap.size, 0, none⟩) 1 1) [h] ∧ But g w (w1.alloc (.cells h.cells.toArray 30)) ∧ PAt (w1.alloc (.cells h.cells.toArray 30)) g (tailS (l.drop 0) t)) :=
    Lib.hid ⟨by simp [he], CArgs.one hs1 hok, hb1.al _, by simpa using hp2⟩
  unfold HE.val E.val
  clear hb1 hp1 hp2 hok he hs1 H1
  unfold HE.cells at H2
  go_wp2_with fail
  go_loopw [5] (fun v wr => ∃ (j : Nat) (hs : List HE), j ≤ l.length ∧ Hid (hs.map HE.e = e :: l.take j ∧ CArgs w.heap.size wr v hs ∧ But g w wr ∧ PAt wr g (tailS (l.drop j) t))) (fun v _ => l.length + 2 - lenV v)
  case atStart => exact ⟨0, [h], Nat.zero_le _, H2⟩
  case round =>
    obtain ⟨j, hs, hj, HI⟩ := hrel
    have hsl : hs.length = j + 1 := by
      have := congrArg List.length HI.out.1
      simpa [Nat.min_eq_left hj] using this
    obtain ⟨A, c, rfl⟩ := own_slc HI.out.2.1.1
    by_cases hlt : j < l.length
    · have hd : l.drop j = l[j] :: l.drop (j + 1) := List.drop_eq_getElem_cons hlt
      have HEt := Lib.hid (eat_miss g (tailS (l.drop j) t) ⟨#[41]⟩ wr HI.out.2.2.2 (by rw [hd]; rfl))
      have HT := Lib.hid (List.take_succ_eq_append_getElem hlt)
      have hsz := HI.out.2.2.1.size
      go_wp2_with fail
      refine HEt.out.mono ?_
      rintro x w2 ⟨rfl, hb2, hp2⟩
      have HNd := Lib.hid (need_hit g (tailS (l.drop j) t) (strE l[j] ++ tailS (l.drop (j + 1)) t) ⟨#[44, 32]⟩ w2 hp2 (by rw [hd]; rfl))
      have H2 := Lib.hid hb2
      clear hb2 hp2 HEt hd
      go_wp2_with fail
      refine HNd.out.mono ?_
      rintro x w3 ⟨rfl, hb3, hp3⟩
      have H3 := Lib.hid (But.thn H2.out hb3)
      have HIt := Lib.hid (HC.out l[j] (List.mem_cons_of_mem _ (List.getElem_mem hlt)) _ w3 (Stp.tail (l.drop (j + 1)) t) (HI.out.2.2.1.thn H3.out) hp3 (by
        have h1 := tail_len l t j
        rw [List.drop_eq_getElem_cons hlt, tailS] at h1
        simp only [List.length_cons, List.length_append] at h1 hn ⊢
        omega))
      clear hb3 hp3 HNd H2
      go_wp2_with fail
      refine HIt.out.mono ?_
      rintro x w4 ⟨h, he, rfl, hb4, hp4, hok⟩
      have hs3 := H3.out.size
      have hs4 := hb4.size
      have H4 : Hid (But g wr w4 ∧ PAt w4 g (tailS (l.drop (j + 1)) t) ∧ h.ok w4 (fun b => wr.heap.size ≤ b ∧ b < w4.heap.size)) := Lib.hid ⟨H3.out.thn hb4, hp4, hok.kept (fun _ _ => rfl) fun b hb => ⟨Nat.le_trans hs3 hb.1, hb.2⟩⟩
      have HH := Lib.hid he
      have hne : (Value.slice A (j + 1) c).ownBlock ≠ some g := fun e => by
        have h1 := HI.out.2.1.1
        rw [hsl] at h1
        have := (h1.lt g e).1
        omega
      have HO : Hid (w4.ownsRow w.heap.size 30 9 (.slice A (j + 1) c) (j + 1) (hcells hs)) := Lib.hid (by
        have h1 := HI.out.2.1.1
        rw [hsl] at h1
        exact h1.kept (row := some g) H4.out.1 (.inr hne))
      unfold HE.val E.val
      obtain ⟨i0, hi, hz0, hz1, hz2⟩ := info_parts infoE
      clear hb4 hp4 hok he HIt H3
      go_wp2_with (at_builtin; refine wpList_append_any _ rfl (.tmp 14) (.tmp 17) 22 rfl w.heap.size 30 i0 (.agg #[.int .i64 0, .int .i64 0, .int .i64 0, .int .i64 0, .int .i64 0, .int .i64 0, .string ⟨#[]⟩, .slice none 0 0, .slice none 0 0]) 9 112 Tryz.underlying22 hi hz0 hz1 hz2 rfl (by decide) _ _ _ rfl (HO.out.alloc _) (w4.heap.size + 1) _ 1 1 (hcells [h]) rfl ?c0 ?c1 ?c2 ?c3 ?c4 ?_)
      case c0 => exact Reads.he (Blk.new' (g := w4.heap.size) rfl) (Nat.lt_succ_self _)
      case c1 => exact hcells_one _
      case c2 => unfold maxLen; omega
      case c3 => omega
      case c4 => simp <;> omega
      intro v' w5 hown5 hgrow hvb
      have HN : Hid ((hs ++ [h]).map HE.e = e :: l.take (j + 1) ∧ CArgs w.heap.size w5 v' (hs ++ [h]) ∧ But g w w5 ∧ PAt w5 g (tailS (l.drop (j + 1)) t)) := by
        have hrow : ∀ b, (Value.slice A (j + 1) c).ownBlock = some b → w.heap.size ≤ b := fun b hb => by
          have h1 := HI.out.2.1.1
          rw [hsl] at h1
          exact (h1.lt b hb).1
        exact ⟨by rw [List.map_append, HI.out.1, HT.out, List.map_singleton, HH.out]; rfl, CArgs.more HI.out.2.1 H4.out.1 hgl hsz H4.out.2.2 (by rw [hsl]; exact hown5) (by rw [hsl]; exact hgrow) (by rw [hsl]; simpa using hvb), (HI.out.2.2.1.thn H4.out.1).app hgrow hrow, Blk.grown (Blk.alloc H4.out.2.1 _) hgrow (fun e => by have := hrow g e.symm; omega)⟩
      obtain ⟨A2, c2, rfl⟩ := own_slc hown5
      clear hown5 hgrow hvb
      go_wp2_with fail
      exact ⟨⟨j + 1, hs ++ [h], by omega, HN⟩, by simp [lenV]; omega⟩
    · have hjl : j = l.length := by omega
      have HEt := Lib.hid (eat_hit g (tailS (l.drop j) t) t ⟨#[41]⟩ wr HI.out.2.2.2 (by rw [hjl, List.drop_length]; rfl))
      have HT : Hid (l.take j = l) := Lib.hid (List.take_of_length_le (by omega))
      clear hjl
      go_wp2_with fail
      refine HEt.out.mono ?_
      rintro x w2 ⟨rfl, hb2, hp2⟩
      have HD : Hid (hs.map HE.e = e :: l ∧ CArgs w.heap.size w2 (.slice A (j + 1) c) hs ∧ But g w w2 ∧ PAt w2 g t) := Lib.hid ⟨by rw [HI.out.1, HT.out], (show (Value.slice A hs.length c) = .slice A (j + 1) c by rw [hsl]) ▸ HI.out.2.1.but hb2 hgl, HI.out.2.2.1.thn hb2, hp2⟩
      clear hb2 hp2
      go_wp2_with fail
      go_ret
      exact ⟨.slice A (j + 1) c, hs, rfl, HD.out.1, HD.out.2.1, HD.out.2.2⟩
end Go.Proofs.YtdiehgfldndgbaaGreatDoor
namespace Go.Proofs.YtdiehgfldndgbaaGreatDoor
open Go.RowKit Go.Deep

def dWrt (b0 m : Nat) (wd js : ByteArray) (A : Option Addr) (l : List E) (c : Nat) (i : Nat) (u : Value) (w' : World) : Prop :=
  match i with
  | 0 => u = .pointer (some ⟨b0, 0, none⟩)
  | 1 => u = .int .i64 (m : Nat)
  | 2 => u = .pointer (some ⟨0, m * 5, none⟩)
  | 3 => u = .pointer (some ⟨0, m * 5, none⟩)
  | 4 => u = .string wd
  | 5 => u = .string (wd ++ ⟨#[40]⟩)
  | 6 => u = .pointer (some ⟨b0, 7, none⟩)
  | 7 => u = .slice A l.length c
  | 8 => ∃ g C, u = .slice (some ⟨g, 0, none⟩) l.length l.length ∧ Blk w' g 9 C ∧ ∀ (i : Nat) (x : E), l[i]? = some x → C[i]? = some (Value.string ⟨(strE x).toArray⟩)
  | 9 => u = .string js
  | 10 => u = .string (wd ++ ⟨#[40]⟩ ++ js)
  | 11 => u = .string (wd ++ ⟨#[40]⟩ ++ js ++ ⟨#[41]⟩)
  | _ => u = .string (wd ++ ⟨#[40]⟩ ++ js ++ ⟨#[41]⟩)
set_option maxHeartbeats 4000000 in
set_option maxRecDepth 100000 in
theorem written_any : ∀ (k q : Nat) (e : E) (A R : Option Addr) (c d : Nat) (w : World), nodesE e < k → k ≤ 1000000 → nodesE e ≤ 1000 → GG w → EIn e → shapedE q e = true → LOk w (Lo w.heap.size) A e.args →
    Calls Tryz.prog 72 #[e.val A c R d] w fun x w' => x = .returned (.string ⟨(strE e).toArray⟩) ∧ Below w.heap.size w w' := by
  intro k
  induction k with
  | zero => intro q e A R c d w h; exact absurd h (Nat.not_lt_zero _)
  | succ k ih =>
    intro q e A R c d w hk hk1 hn hG hI hsh hA
    obtain ⟨q, rfl⟩ : ∃ q', q = q' + 1 := by
      cases q with
      | zero => rw [shapedE_zero] at hsh; cases hsh
      | succ q => exact ⟨q, rfl⟩
    have hlen := strE_len (q + 1) e hsh hI
    rw [shapedE_succ, Bool.and_eq_true] at hsh
    by_cases h4 : e.op < 4
    · exact written_leaf e A R c d w hG hI hsh.1 h4
    have hnE := nodesE_args e
    have hln := nodesL_len e.args
    have h25 : e.op ≤ 25 := by
      rcases (node_cases hsh.1).2 with ⟨h, _⟩ | ⟨h, _⟩ | ⟨h, _⟩ | ⟨_, h, _⟩ <;> omega
    obtain ⟨m, hm⟩ : ∃ m : Nat, e.op = m := ⟨e.op.toNat, by omega⟩
    have hm4 : 4 ≤ m := by omega
    have hm25 : m ≤ 25 := by omega
    obtain ⟨wd, hwd⟩ : ∃ s : ByteArray, s = wordB m := ⟨_, rfl⟩
    obtain ⟨js, hjs⟩ : ∃ s : ByteArray, s = ⟨(joinS (e.args.map strE)).toArray⟩ := ⟨_, rfl⟩
    have HWd : Hid (wd.data.toList = wordL m) := Lib.hid (by rw [hwd]; rfl)
    have HJs : Hid (js.data.toList = joinS (e.args.map strE)) := Lib.hid (by rw [hjs])
    have HL : Hid (strE e = wordL m ++ 40 :: (joinS (e.args.map strE) ++ [41])) := Lib.hid (by rw [strE_of, if_neg h4, hm])
    have hwz : wd.size ≤ 8 := by
      have := wordL_len (m : Int)
      rw [← HWd.out] at this
      exact this
    have hjz : js.size ≤ 600000 := by
      rw [HL.out, ← HJs.out] at hlen
      simp at hlen
      omega
    have HG : Hid (∀ w1, Below w.heap.size w w1 → w1.cell? ⟨0, m * 5, none⟩ = some (.string wd) ∧ 2 ≤ w1.heap.size) := Lib.hid fun w1 hb => ⟨by rw [hwd]; exact ((hG.thn hb).s.shp m hm4 hm25).1, (hG.thn hb).s.lo⟩
    have HE2 : Hid (∀ w1, Below w.heap.size w w1 → Calls Tryz.prog 111 #[.slice A e.args.length c, .func (.func 72) #[] #[]] w1 fun x w' => ∃ (g : Nat) (C : Array Value), x = .returned (.slice (some ⟨g, 0, none⟩) e.args.length e.args.length) ∧ Blk w' g 9 C ∧ (∀ (i : Nat) (x : E), e.args[i]? = some x → C[i]? = some (Value.string ⟨(strE x).toArray⟩)) ∧ Below w1.heap.size w1 w') := Lib.hid fun w1 hb =>
      eachS_any 72 (fun x => ⟨(strE x).toArray⟩) e.args A c w1 (by omega) (hA.below hb hb.size) (enters_of Tryz.func72 (by kernel_rfl) rfl) fun x hx A' R' c' d' w2 hb2 hA2 =>
        ih q x A' R' c' d' w2 (by have := nodesL_mem hx; omega) (by omega) (by have := nodesL_mem hx; omega) ((hG.thn hb).thn hb2) (LIn.mem (EIn.args hI) x hx) (shapedL_mem hsh.2 x hx) hA2
    have HJ : Hid (∀ w1 g (C : Array Value), Blk w1 g 9 C → (∀ (i : Nat) (x : E), e.args[i]? = some x → C[i]? = some (Value.string ⟨(strE x).toArray⟩)) → Calls Tryz.prog 110 #[.slice (some ⟨g, 0, none⟩) e.args.length e.args.length, .string ⟨#[44, 32]⟩] w1 fun x w' => x = .returned (.string js) ∧ Below w1.heap.size w1 w') := Lib.hid fun w1 g C hB hC => by
      have h := Tryz.strings_Join g 0 e.args.length (e.args.map fun x => (⟨(strE x).toArray⟩ : ByteArray)) ⟨#[44, 32]⟩ w1 (fun j x hx => by
        rw [List.getElem?_map] at hx
        obtain ⟨y, hy, rfl⟩ := Option.map_eq_some_iff.1 hx
        rw [Nat.zero_add, hB.cell j]
        exact hC j y hy) hB.lt (by rw [List.length_map]; omega) (by rw [List.length_map]; exact Nat.le_refl _) (by
        rw [List.map_map]
        have e1 : ((fun x : ByteArray => x.data.toList) ∘ fun x => (⟨(strE x).toArray⟩ : ByteArray)) = strE := rfl
        rw [e1, show (⟨#[44, 32]⟩ : ByteArray).data.toList = [44, 32] from rfl, join_S, ← HJs.out]
        have e2 : js.data.toList.length = js.size := rfl
        rw [e2]; omega)
      rw [List.map_map] at h
      have e1 : ((fun x : ByteArray => x.data.toList) ∘ fun x => (⟨(strE x).toArray⟩ : ByteArray)) = strE := rfl
      rw [e1, show (⟨#[44, 32]⟩ : ByteArray).data.toList = [44, 32] from rfl, join_S, ← hjs, List.length_map] at h
      exact h
    unfold E.val
    rw [hm]
    have e1 : ((m : Int) == 1) = false := beq_eq_false_iff_ne.2 (by omega)
    have e2 : ((m : Int) == 2) = false := beq_eq_false_iff_ne.2 (by omega)
    have e3 : ((m : Int) == 3) = false := beq_eq_false_iff_ne.2 (by omega)
    clear ih hG hA hI hlen hwd hjs hsh h4 h25 hm hnE hln
    go_enter Tryz.func72, Tryz.ntmps72
    go_upto_region 11 with fail
    have HB := Lib.hid (Blk.new w 30 #[.int .i64 (m : Nat), .int .i64 e.n, .int .i64 e.m, .int .i64 e.kind, .int .i64 e.lit.k, .int .i64 e.lit.n, .string e.lit.s, .slice A e.args.length c, .slice R e.rels.length d])
    refine wp_region_grow (W := (w.alloc (.cells #[.int .i64 (m : Nat), .int .i64 e.n, .int .i64 e.m, .int .i64 e.kind, .int .i64 e.lit.k, .int .i64 e.lit.n, .string e.lit.s, .slice A e.args.length c, .slice R e.rels.length d] 30))) 13 [[], [0], [1], [2], [3], [4], [], [6], [7], [8], [5, 9], [10], [11]] [] (dWrt w.heap.size m wd js A e.args c) (by kernel_rfl) (by kernel_rfl) ?hD ⟨?o0, ?o1, ?o2, ?o3, ?o4, ?o5, ?o6, ?o7, ?o8, ?o9, ?o10, ?o11, ?o12, trivial⟩ ?fin
    case hD =>
      intro i u w1 w2 hb hd
      unfold dWrt at hd ⊢; split at hd <;> first | exact hd | (obtain ⟨g, C, h1, h2, h3⟩ := hd; exact ⟨g, C, h1, h2.below hb h2.lt, h3⟩)
    case o0 =>
      refine growOne_of (pre := []) rfl ?_
      simp only [fillL, Act.put]
      intro f w' hb hp
      clear hp
      clear hb
      go_wp2_with fail
      exact ⟨Below.refl _ _, rfl, fun h => by simp at h⟩
    case o1 =>
      refine growOne_of (pre := [0]) rfl ?_
      simp only [fillL, Region.dstOf, List.getElem?_toArray, List.getElem?_cons_zero, Option.bind_some, Act.put]
      intro f w' hb hp
      have h0 : f 0 = .pointer (some ⟨w.heap.size, 0, none⟩) := hp 0 (by decide)
      have k0 := (hb.cell (p := ⟨w.heap.size, 0, none⟩) HB.out.lt).trans (HB.out.cell 0)
      simp only [List.getElem?_toArray, List.getElem?_cons_zero] at k0
      clear hp
      rw [h0]
      clear h0
      clear hb
      go_wp2_with fail
      exact ⟨Below.refl _ _, rfl, fun h => by simp at h⟩
    case o2 =>
      refine growOne_of (pre := [1]) rfl ?_
      simp only [fillL, Region.dstOf, List.getElem?_toArray, List.getElem?_cons_zero, List.getElem?_cons_succ, Option.bind_some, Act.put]
      intro f w' hb hp
      have h1 : f 1 = .int .i64 (m : Nat) := hp 1 (by decide)
      have klo := (HG.out w' (thn (al (Below.refl _ _) _) hb)).2
      clear hp
      rw [h1]
      clear h1
      clear hb
      go_wp2_with fail
      exact ⟨Below.refl _ _, rfl, fun h => by simp at h⟩
    case o3 =>
      refine growOne_of (pre := [2]) rfl ?_
      simp only [fillL, Region.dstOf, List.getElem?_toArray, List.getElem?_cons_zero, List.getElem?_cons_succ, Option.bind_some, Act.put]
      intro f w' hb hp
      have h2 : f 2 = .pointer (some ⟨0, m * 5, none⟩) := hp 2 (by decide)
      clear hp
      rw [h2]
      clear h2
      clear hb
      go_wp2_with fail
      exact ⟨Below.refl _ _, rfl, fun h => by simp at h⟩
    case o4 =>
      refine growOne_of (pre := [3]) rfl ?_
      simp only [fillL, Region.dstOf, List.getElem?_toArray, List.getElem?_cons_zero, List.getElem?_cons_succ, Option.bind_some, Act.put]
      intro f w' hb hp
      have h3 : f 3 = .pointer (some ⟨0, m * 5, none⟩) := hp 3 (by decide)
      obtain ⟨k0, klo⟩ := HG.out w' (thn (al (Below.refl _ _) _) hb)
      clear hp
      rw [h3]
      clear h3
      clear hb
      go_wp2_with fail
      exact ⟨Below.refl _ _, rfl, fun h => by simp at h⟩
    case o5 =>
      refine growOne_of (pre := [4]) rfl ?_
      simp only [fillL, Region.dstOf, List.getElem?_toArray, List.getElem?_cons_zero, List.getElem?_cons_succ, Option.bind_some, Act.put]
      intro f w' hb hp
      have h4 : f 4 = .string wd := hp 4 (by decide)
      clear hp
      rw [h4]
      clear h4
      clear hb
      go_wp2_with fail
      exact ⟨Below.refl _ _, rfl, fun h => by simp at h⟩
    case o6 =>
      refine growOne_of (pre := []) rfl ?_
      simp only [fillL, Act.put]
      intro f w' hb hp
      clear hp
      clear hb
      go_wp2_with fail
      exact ⟨Below.refl _ _, rfl, fun h => by simp at h⟩
    case o7 =>
      refine growOne_of (pre := [6]) rfl ?_
      simp only [fillL, Region.dstOf, List.getElem?_toArray, List.getElem?_cons_zero, List.getElem?_cons_succ, Option.bind_some, Act.put]
      intro f w' hb hp
      have h6 : f 6 = .pointer (some ⟨w.heap.size, 7, none⟩) := hp 6 (by decide)
      have k0 := (hb.cell (p := ⟨w.heap.size, 7, none⟩) HB.out.lt).trans (HB.out.cell 7)
      simp only [List.getElem?_toArray, List.getElem?_cons_succ, List.getElem?_cons_zero] at k0
      clear hp
      rw [h6]
      clear h6
      clear hb
      go_wp2_with fail
      exact ⟨Below.refl _ _, rfl, fun h => by simp at h⟩
    case o8 =>
      refine growOne_of (pre := [7]) rfl ?_
      simp only [fillL, Region.dstOf, List.getElem?_toArray, List.getElem?_cons_zero, List.getElem?_cons_succ, Option.bind_some, Act.put]
      intro f w' hb hp
      have h7 : f 7 = .slice A e.args.length c := hp 7 (by decide)
      clear hp
      rw [h7]
      clear h7
      have hbl := thn (al (Below.refl w.heap.size w) _) hb
      clear hb
      go_wp2_with fail
      refine (HE2.out w' hbl).mono ?_
      rintro x w9 ⟨g, C, rfl, hC, hCi, hb9⟩
      have HO : Hid (growPost (dWrt w.heap.size m wd js A e.args c) [] 8 w' w9 (.slice (some ⟨g, 0, none⟩) e.args.length e.args.length)) := ⟨hb9, ⟨g, C, rfl, hC, hCi⟩, fun h => by simp at h⟩
      clear hb9 hC hCi
      go_wp2_with fail
      exact HO.out
    case o9 =>
      refine growOne_of (pre := [8]) rfl ?_
      simp only [fillL, Region.dstOf, List.getElem?_toArray, List.getElem?_cons_zero, List.getElem?_cons_succ, Option.bind_some, Act.put]
      intro f w' hb hp
      obtain ⟨g, C, h8, hC, hCi⟩ := hp 8 (by decide)
      have HC := Lib.hid (And.intro hC hCi)
      clear hC hCi
      clear hp
      rw [h8]
      clear h8
      clear hb
      go_wp2_with fail
      refine (HJ.out w' g C HC.out.1 HC.out.2).mono ?_
      rintro x w9 ⟨rfl, hb9⟩
      go_wp2_with fail
      exact ⟨hb9, rfl, fun h => by simp at h⟩
    case o10 =>
      refine growOne_of (pre := [5, 9]) rfl ?_
      simp only [fillL, Region.dstOf, List.getElem?_toArray, List.getElem?_cons_zero, List.getElem?_cons_succ, Option.bind_some, Act.put]
      intro f w' hb hp
      have h5 : f 5 = .string (wd ++ ⟨#[40]⟩) := hp 5 (by decide)
      have h9 : f 9 = .string js := hp 9 (by decide)
      clear hp
      rw [h5, h9]
      clear h5 h9
      clear hb
      go_wp2_with fail
      exact ⟨Below.refl _ _, rfl, fun h => by simp at h⟩
    case o11 =>
      refine growOne_of (pre := [10]) rfl ?_
      simp only [fillL, Region.dstOf, List.getElem?_toArray, List.getElem?_cons_zero, List.getElem?_cons_succ, Option.bind_some, Act.put]
      intro f w' hb hp
      have h10 : f 10 = .string (wd ++ ⟨#[40]⟩ ++ js) := hp 10 (by decide)
      clear hp
      rw [h10]
      clear h10
      clear hb
      go_wp2_with fail
      exact ⟨Below.refl _ _, rfl, fun h => by simp at h⟩
    case o12 =>
      refine growOne_of (pre := [11]) rfl ?_
      simp only [fillL, Region.dstOf, List.getElem?_toArray, List.getElem?_cons_zero, List.getElem?_cons_succ, Option.bind_some, Act.put]
      intro f w' hb hp
      have h11 : f 11 = .string (wd ++ ⟨#[40]⟩ ++ js ++ ⟨#[41]⟩) := hp 11 (by decide)
      clear hp
      rw [h11]
      clear h11
      clear hb
      go_wp2_with fail
      exact ⟨Below.refl _ _, rfl, fun h => by simp at h⟩
    case fin =>
      intro f w' hb hd _
      have e0 : f 0 = .pointer (some ⟨w.heap.size, 0, none⟩) := hd 0 (by decide)
      have e1 : f 1 = .int .i64 (m : Nat) := hd 1 (by decide)
      have e2 : f 2 = .pointer (some ⟨0, m * 5, none⟩) := hd 2 (by decide)
      have e3 : f 3 = .pointer (some ⟨0, m * 5, none⟩) := hd 3 (by decide)
      have e4 : f 4 = .string wd := hd 4 (by decide)
      have e5 : f 5 = .string (wd ++ ⟨#[40]⟩) := hd 5 (by decide)
      have e6 : f 6 = .pointer (some ⟨w.heap.size, 7, none⟩) := hd 6 (by decide)
      have e7 : f 7 = .slice A e.args.length c := hd 7 (by decide)
      obtain ⟨g, C, e8, hC, hCi⟩ := hd 8 (by decide)
      have e9 : f 9 = .string js := hd 9 (by decide)
      have e10 : f 10 = .string (wd ++ ⟨#[40]⟩ ++ js) := hd 10 (by decide)
      have e11 : f 11 = .string (wd ++ ⟨#[40]⟩ ++ js ++ ⟨#[41]⟩) := hd 11 (by decide)
      have e12 : f 12 = .string (wd ++ ⟨#[40]⟩ ++ js ++ ⟨#[41]⟩) := hd 12 (by decide)
      clear hd
      rw [show List.range 13 = [0, 1, 2, 3, 4, 5, 6, 7, 8, 9, 10, 11, 12] from rfl]
      simp only [fillL, Region.dstOf, List.getElem?_toArray, List.getElem?_cons_zero, List.getElem?_cons_succ, Option.bind_some, Act.put]
      rw [e0, e1, e2, e3, e4, e5, e6, e7, e8, e9, e10, e11, e12]
      clear e0 e1 e2 e3 e4 e5 e6 e7 e8 e9 e10 e11 e12
      have H2 := Lib.hid (thn (al (Below.refl _ _) _) hb)
      clear hb
      go_frame
      change wpList _ _ _ [] _ _
      go_wp2_with fail
      go_ret
      exact ⟨by rw [HL.out]; exact ret_ba (by simp [HWd.out, HJs.out]), H2.out⟩
end Go.Proofs.YtdiehgfldndgbaaGreatDoor
namespace Go.Proofs.YtdiehgfldndgbaaGreatDoor
open Go.RowKit Go.Deep

/-- what String gives -/
def strS (e : E) : ByteArray := if formE e = true ∧ (strE e).length ≤ 20000 then ⟨(strE e).toArray⟩ else ⟨#[]⟩
def strF (e : E) : Int := if formE e = true then (if (strE e).length ≤ 20000 then 0 else 2) else 30
theorem formE_iff {e : E} : formE e = true ↔ shapedE 24 e = true ∧ nodesE e ≤ 400 := by
  unfold formE
  rw [Bool.and_eq_true, decide_eq_true_iff]
theorem cksE_one (e : E) : cksE [e] = ckE e := by unfold cksE ckE; simp
set_option maxHeartbeats 2000000 in
set_option maxRecDepth 100000 in
theorem StringP_any (e : E) (A R : Option Addr) (c d : Nat) (w : World) (hG : GG w) (hE : EHas w e A R) (hI : EIn e) :
    Calls Tryz.prog 32 #[e.val A c R d] w fun x w' => x = .returned (.tuple #[.string (strS e), .int .i64 (strF e)]) ∧ Below w.heap.size w w' := by
  have HK : Hid (∀ g w1, Blk w1 g 30 #[.int .i64 e.op, .int .i64 e.n, .int .i64 e.m, .int .i64 e.kind, .int .i64 e.lit.k, .int .i64 e.lit.n, .string e.lit.s, .slice A e.args.length c, .slice R e.rels.length d] → Below w.heap.size w w1 →
      Calls Tryz.prog 46 #[.slice (some ⟨g, 0, none⟩) 1 1] w1 fun x w' => x = .returned (.int .i64 (ckE e)) ∧ Below w1.heap.size w1 w') := Lib.hid fun g w1 k hb => by
    have h := checkE_any (some ⟨g, 0, none⟩) 1 [e] w1 (by simp) (fun x hx => by rw [List.mem_singleton] at hx; subst hx; exact ⟨hE.n, hE.f⟩) (hG.thn hb).s (LOk.one k k.lt (hE.below hb).a (hE.below hb).r)
    rw [cksE_one] at h
    exact h
  rcases ckE_cases e with ⟨hq, hc⟩ | ⟨hq, hc⟩
  · have hf := formE_iff.1 hq
    obtain ⟨s, hs⟩ : ∃ s : ByteArray, s = ⟨(strE e).toArray⟩ := ⟨_, rfl⟩
    have HW : Hid (∀ w1, Below w.heap.size w w1 → Calls Tryz.prog 72 #[e.val A c R d] w1 fun x w' => x = .returned (.string s) ∧ Below w1.heap.size w1 w') := Lib.hid fun w1 hb =>
      hs ▸ written_any 1000000 24 e A R c d w1 hE.n (Nat.le_refl _) (by omega) (hG.thn hb) hI hf.1 (hE.below hb).a
    have hsz : s.size = (strE e).length := by rw [hs]; rfl
    have hsz2 : s.size ≤ 1000000 := by
      have := strE_len 24 e hf.1 hI
      omega
    have HR : Hid (strS e = if s.size ≤ 20000 then s else ⟨#[]⟩) := Lib.hid (by
      unfold strS
      rw [hsz]
      by_cases h : (strE e).length ≤ 20000
      · rw [if_pos h, if_pos ⟨hq, h⟩, hs]
      · rw [if_neg h, if_neg (fun h2 => h h2.2)])
    have HF : Hid (strF e = if s.size ≤ 20000 then 0 else 2) := Lib.hid (by unfold strF; rw [if_pos hq, hsz])
    rw [hc] at HK
    unfold E.val at HW ⊢
    clear hG hE hI hq hc hf hs hsz
    have key : ∀ (r : ByteArray) (f : Int), strS e = r → strF e = f → (if s.size ≤ 20000 then r = s ∧ f = 0 else r = ⟨#[]⟩ ∧ f = 2) := fun r f h1 h2 => by
      rw [← h1, ← h2, HR.out, HF.out]
      split <;> exact ⟨rfl, rfl⟩
    obtain ⟨r, hr⟩ : ∃ r, strS e = r := ⟨_, rfl⟩
    obtain ⟨f, hf⟩ : ∃ f, strF e = f := ⟨_, rfl⟩
    have HQ := Lib.hid (key r f hr hf)
    rw [hr, hf]
    clear HR HF key hr hf
    by_cases hl : s.size ≤ 20000
    · have HQ : Hid (r = s ∧ f = 0) := Lib.hid (by have := HQ.out; rwa [if_pos hl] at this)
      have hli : ¬ ((20000 : Int) < (s.size : Int)) := by omega
      clear hl
      go_enter Tryz.func32, Tryz.ntmps32
      go_wp2_with fail
      refine (HK.out _ _ (Blk.new' (by simp)) (al (al (Below.refl _ _) _) _)).mono ?_
      rintro x w2 ⟨rfl, hb2⟩
      have H2 := Lib.hid (And.intro (thn (al (al (Below.refl w.heap.size w) _) _) hb2) (((Blk.new w 30 #[.int .i64 e.op, .int .i64 e.n, .int .i64 e.m, .int .i64 e.kind, .int .i64 e.lit.k, .int .i64 e.lit.n, .string e.lit.s, .slice A e.args.length c, .slice R e.rels.length d]).alloc _).below hb2 (by simp; omega)))
      clear hb2
      have a0 := H2.out.2
      have c0 := a0.cell 0
      have c1 := a0.cell 1
      have c2 := a0.cell 2
      have c3 := a0.cell 3
      have c4 := a0.cell 4
      have c5 := a0.cell 5
      have c6 := a0.cell 6
      have c7 := a0.cell 7
      have c8 := a0.cell 8
      simp only [List.getElem?_toArray, List.getElem?_cons_succ, List.getElem?_cons_zero] at c0 c1 c2 c3 c4 c5 c6 c7 c8
      clear a0
      go_wp2_with fail
      refine (HW.out _ H2.out.1).mono ?_
      rintro x w3 ⟨rfl, hb3⟩
      have H3 := Lib.hid (thn H2.out.1 hb3)
      clear hb3 c0 c1 c2 c3 c4 c5 c6 c7 c8
      go_wp2_with fail
      go_ret2
      exact ⟨by rw [HQ.out.1, HQ.out.2]; rfl, H3.out⟩
    · have HQ : Hid (r = ⟨#[]⟩ ∧ f = 2) := Lib.hid (by have := HQ.out; rwa [if_neg hl] at this)
      have hli : ((20000 : Int) < (s.size : Int)) := by omega
      clear hl
      go_enter Tryz.func32, Tryz.ntmps32
      go_wp2_with fail
      refine (HK.out _ _ (Blk.new' (by simp)) (al (al (Below.refl _ _) _) _)).mono ?_
      rintro x w2 ⟨rfl, hb2⟩
      have H2 := Lib.hid (And.intro (thn (al (al (Below.refl w.heap.size w) _) _) hb2) (((Blk.new w 30 #[.int .i64 e.op, .int .i64 e.n, .int .i64 e.m, .int .i64 e.kind, .int .i64 e.lit.k, .int .i64 e.lit.n, .string e.lit.s, .slice A e.args.length c, .slice R e.rels.length d]).alloc _).below hb2 (by simp; omega)))
      clear hb2
      have a0 := H2.out.2
      have c0 := a0.cell 0
      have c1 := a0.cell 1
      have c2 := a0.cell 2
      have c3 := a0.cell 3
      have c4 := a0.cell 4
      have c5 := a0.cell 5
      have c6 := a0.cell 6
      have c7 := a0.cell 7
      have c8 := a0.cell 8
      simp only [List.getElem?_toArray, List.getElem?_cons_succ, List.getElem?_cons_zero] at c0 c1 c2 c3 c4 c5 c6 c7 c8
      clear a0
      go_wp2_with fail
      refine (HW.out _ H2.out.1).mono ?_
      rintro x w3 ⟨rfl, hb3⟩
      have H3 := Lib.hid (thn H2.out.1 hb3)
      clear hb3 c0 c1 c2 c3 c4 c5 c6 c7 c8
      go_wp2_with fail
      go_ret2
      exact ⟨by rw [HQ.out.1, HQ.out.2]; rfl, H3.out⟩
  · have HR : Hid (strS e = ⟨#[]⟩ ∧ strF e = 30) := Lib.hid ⟨by unfold strS; rw [hq]; simp, by unfold strF; rw [hq]; simp⟩
    rw [hc] at HK
    unfold E.val
    clear hG hE hI hq hc
    go_enter Tryz.func32, Tryz.ntmps32
    go_wp2_with fail
    refine (HK.out _ _ (Blk.new' (by simp)) (al (al (Below.refl _ _) _) _)).mono ?_
    rintro x w2 ⟨rfl, hb2⟩
    have H2 := Lib.hid (thn (al (al (Below.refl w.heap.size w) _) _) hb2)
    clear hb2
    go_wp2_with fail
    go_ret2
    exact ⟨by rw [HR.out.1, HR.out.2]; rfl, H2.out⟩
end Go.Proofs.YtdiehgfldndgbaaGreatDoor
namespace Go.Proofs.YtdiehgfldndgbaaGreatDoor
open Go.RowKit Go.Deep

/-- what Kind gives -/
def kndR (cs : List Co) (e : E) : Option Co := if colsE cs = 0 ∧ formE e = true then kindE cs e else none
def kndF (cs : List Co) (e : E) : Int := if colsE cs = 0 then (if formE e = true then (if (kindE cs e).isSome = true then 0 else 31) else 30) else 20
theorem colsE_cases (cs : List Co) : colsE cs = 0 ∨ colsE cs = 2 ∨ colsE cs = 20 := by
  unfold colsE
  split
  · exact .inr (.inl rfl)
  · split
    · exact .inr (.inr rfl)
    · exact .inl rfl
theorem colsE_len {cs : List Co} (h : colsE cs = 0) : cs.length ≤ 16 := by
  unfold colsE at h
  by_cases h1 : 16 < cs.length
  · rw [if_pos h1] at h; cases h
  · omega
set_option maxHeartbeats 4000000 in
set_option maxRecDepth 100000 in
theorem KindP_any (e : E) (A R : Option Addr) (c d : Nat) (cs : List Co) (Ac : Option Addr) (cc : Nat) (w : World) (hG : GS w) (hE : EHas w e A R) (hC : KReads w w.heap.size Ac cs) (hcl : cs.length ≤ 1000) :
    Calls Tryz.prog 39 #[e.val A c R d, .slice Ac cs.length cc] w fun x w' => x = .returned (.tuple #[coV (kndR cs e), .int .i64 (kndF cs e)]) ∧ Below w.heap.size w w' := by
  have HC := Lib.hid (CheckCols_any Ac cc cs ((w.alloc (.cells #[.int .i64 e.op, .int .i64 e.n, .int .i64 e.m, .int .i64 e.kind, .int .i64 e.lit.k, .int .i64 e.lit.n, .string e.lit.s, .slice A e.args.length c, .slice R e.rels.length d] 30)).alloc (.cells #[.int .i64 0, .bool false] 77)) (hC.below (al (al (Below.refl _ _) _) _) (by simp; omega)) (by omega))
  have HK : Hid (∀ g w1, Blk w1 g 30 #[.int .i64 e.op, .int .i64 e.n, .int .i64 e.m, .int .i64 e.kind, .int .i64 e.lit.k, .int .i64 e.lit.n, .string e.lit.s, .slice A e.args.length c, .slice R e.rels.length d] → Below w.heap.size w w1 →
      Calls Tryz.prog 46 #[.slice (some ⟨g, 0, none⟩) 1 1] w1 fun x w' => x = .returned (.int .i64 (ckE e)) ∧ Below w1.heap.size w1 w') := Lib.hid fun g w1 k hb => by
    have h := checkE_any (some ⟨g, 0, none⟩) 1 [e] w1 (by simp) (fun x hx => by rw [List.mem_singleton] at hx; subst hx; exact ⟨hE.n, hE.f⟩) (hG.thn hb) (LOk.one k k.lt (hE.below hb).a (hE.below hb).r)
    rw [cksE_one] at h
    exact h
  have hB00 := (Blk.new w 30 #[.int .i64 e.op, .int .i64 e.n, .int .i64 e.m, .int .i64 e.kind, .int .i64 e.lit.k, .int .i64 e.lit.n, .string e.lit.s, .slice A e.args.length c, .slice R e.rels.length d]).alloc (.cells #[.int .i64 0, .bool false] 77)
  have hB01 : Blk ((w.alloc (.cells #[.int .i64 e.op, .int .i64 e.n, .int .i64 e.m, .int .i64 e.kind, .int .i64 e.lit.k, .int .i64 e.lit.n, .string e.lit.s, .slice A e.args.length c, .slice R e.rels.length d] 30)).alloc (.cells #[.int .i64 0, .bool false] 77)) (w.heap.size + 1) 77 #[.int .i64 0, .bool false] := Blk.new' (by simp)
  have H0 := Lib.hid (And.intro (al (al (Below.refl w.heap.size w) (.cells #[.int .i64 e.op, .int .i64 e.n, .int .i64 e.m, .int .i64 e.kind, .int .i64 e.lit.k, .int .i64 e.lit.n, .string e.lit.s, .slice A e.args.length c, .slice R e.rels.length d] 30)) (.cells #[.int .i64 0, .bool false] 77)) (And.intro hB00 hB01))
  have HE := Lib.hid (And.intro hG (And.intro hE hC))
  clear hB00 hB01 hG hE hC
  rcases colsE_cases cs with hz | hz
  · rw [hz] at HC
    have hln := colsE_len hz
    rcases ckE_cases e with ⟨hq, hc⟩ | ⟨hq, hc⟩
    · have hf := formE_iff.1 hq
      have HP : Hid (∀ w1, Below w.heap.size w w1 → Calls Tryz.prog 81 #[e.val A c R d, .slice Ac cs.length cc] w1 fun x w' => x = .returned (.tuple #[coV (kindE cs e), .bool (kindE cs e).isSome]) ∧ Below w1.heap.size w1 w') := Lib.hid fun w1 hb =>
        kindP_any 1000000 24 e A R c d cs Ac cc w1 HE.out.2.1.n (Nat.le_refl _) (HE.out.1.thn hb) hf.1 (HE.out.2.1.below hb).a (HE.out.2.2.below hb hb.size) hcl
      rw [hc] at HK
      unfold E.val at HP ⊢
      cases hk : kindE cs e with
      | none =>
        have HR : Hid (kndR cs e = none ∧ kndF cs e = 31) := Lib.hid ⟨by unfold kndR; rw [if_pos ⟨hz, hq⟩, hk], by unfold kndF; rw [if_pos hz, if_pos hq, hk]; rfl⟩
        rw [hk] at HP
        unfold coV at HP
        clear hz hq hc hf hk
        go_enter Tryz.func39, Tryz.ntmps39
        go_wp2_with fail
        refine HC.out.mono ?_
        rintro x w2 ⟨rfl, hb2⟩
        have H2 := Lib.hid (And.intro (thn H0.out.1 hb2) (And.intro (H0.out.2.1.below hb2 H0.out.2.1.lt) (H0.out.2.2.below hb2 H0.out.2.2.lt)))
        clear hb2
        have a0 := H2.out.2.1
        have c0 := a0.cell 0
        have c1 := a0.cell 1
        have c2 := a0.cell 2
        have c3 := a0.cell 3
        have c4 := a0.cell 4
        have c5 := a0.cell 5
        have c6 := a0.cell 6
        have c7 := a0.cell 7
        have c8 := a0.cell 8
        simp only [List.getElem?_toArray, List.getElem?_cons_succ, List.getElem?_cons_zero] at c0 c1 c2 c3 c4 c5 c6 c7 c8
        clear a0
        go_wp2_with fail
        refine (HK.out _ _ (Blk.new' rfl) (al H2.out.1 _)).mono ?_
        rintro x w3 ⟨rfl, hb3⟩
        have H3 := Lib.hid (And.intro (thn (al H2.out.1 _) hb3) (And.intro ((H2.out.2.1.alloc _).below hb3 (by have := H2.out.2.1.lt; simp; omega)) ((H2.out.2.2.alloc _).below hb3 (by have := H2.out.2.2.lt; simp; omega))))
        clear hb3 c0 c1 c2 c3 c4 c5 c6 c7 c8
        have a0 := H3.out.2.1
        have c0 := a0.cell 0
        have c1 := a0.cell 1
        have c2 := a0.cell 2
        have c3 := a0.cell 3
        have c4 := a0.cell 4
        have c5 := a0.cell 5
        have c6 := a0.cell 6
        have c7 := a0.cell 7
        have c8 := a0.cell 8
        simp only [List.getElem?_toArray, List.getElem?_cons_succ, List.getElem?_cons_zero] at c0 c1 c2 c3 c4 c5 c6 c7 c8
        clear a0
        go_wp2_with fail
        refine (HP.out _ H3.out.1).mono ?_
        rintro x w4 ⟨rfl, hb4⟩
        have H4 := Lib.hid (And.intro (thn H3.out.1 hb4) (H3.out.2.2.below hb4 H3.out.2.2.lt))
        clear hb4 c0 c1 c2 c3 c4 c5 c6 c7 c8
        have hrb := H4.out.2
        have f0 := hrb.frozen 0
        have f1 := hrb.frozen 1
        have d0 := hrb.cell 0
        have d1 := hrb.cell 1
        have hrl := hrb.lt
        simp only [List.getElem?_toArray, List.getElem?_cons_succ, List.getElem?_cons_zero] at d0 d1
        go_wp2_with fail
        have HB := ((hrb.set_ 0 (.int .i64 0)).set_ 1 (.bool false)).alloc (.cells #[.int .i64 0, .bool false] 77)
        have k0 := HB.cell 0
        have k1 := HB.cell 1
        simp at k0 k1
        exact bodyPost_ret (v := .tuple #[.agg #[.int .i64 0, .bool false], .int .i64 31]) (by simp [results, Tryz.results39, go_sem, k0, k1]) rfl ⟨by rw [HR.out.1, HR.out.2]; rfl, al ((H4.out.1.setCell (p := ⟨w.heap.size + 1, 0, none⟩) (by simp <;> omega) _).setCell (p := ⟨w.heap.size + 1, 1, none⟩) (by simp <;> omega) _) _⟩
      | some kc =>
        obtain ⟨kc1, kc2⟩ := kc
        have HR : Hid (kndR cs e = some (kc1, kc2) ∧ kndF cs e = 0) := Lib.hid ⟨by unfold kndR; rw [if_pos ⟨hz, hq⟩, hk], by unfold kndF; rw [if_pos hz, if_pos hq, hk]; rfl⟩
        rw [hk] at HP
        unfold coV at HP
        clear hz hq hc hf hk
        go_enter Tryz.func39, Tryz.ntmps39
        go_wp2_with fail
        refine HC.out.mono ?_
        rintro x w2 ⟨rfl, hb2⟩
        have H2 := Lib.hid (And.intro (thn H0.out.1 hb2) (And.intro (H0.out.2.1.below hb2 H0.out.2.1.lt) (H0.out.2.2.below hb2 H0.out.2.2.lt)))
        clear hb2
        have a0 := H2.out.2.1
        have c0 := a0.cell 0
        have c1 := a0.cell 1
        have c2 := a0.cell 2
        have c3 := a0.cell 3
        have c4 := a0.cell 4
        have c5 := a0.cell 5
        have c6 := a0.cell 6
        have c7 := a0.cell 7
        have c8 := a0.cell 8
        simp only [List.getElem?_toArray, List.getElem?_cons_succ, List.getElem?_cons_zero] at c0 c1 c2 c3 c4 c5 c6 c7 c8
        clear a0
        go_wp2_with fail
        refine (HK.out _ _ (Blk.new' rfl) (al H2.out.1 _)).mono ?_
        rintro x w3 ⟨rfl, hb3⟩
        have H3 := Lib.hid (And.intro (thn (al H2.out.1 _) hb3) (And.intro ((H2.out.2.1.alloc _).below hb3 (by have := H2.out.2.1.lt; simp; omega)) ((H2.out.2.2.alloc _).below hb3 (by have := H2.out.2.2.lt; simp; omega))))
        clear hb3 c0 c1 c2 c3 c4 c5 c6 c7 c8
        have a0 := H3.out.2.1
        have c0 := a0.cell 0
        have c1 := a0.cell 1
        have c2 := a0.cell 2
        have c3 := a0.cell 3
        have c4 := a0.cell 4
        have c5 := a0.cell 5
        have c6 := a0.cell 6
        have c7 := a0.cell 7
        have c8 := a0.cell 8
        simp only [List.getElem?_toArray, List.getElem?_cons_succ, List.getElem?_cons_zero] at c0 c1 c2 c3 c4 c5 c6 c7 c8
        clear a0
        go_wp2_with fail
        refine (HP.out _ H3.out.1).mono ?_
        rintro x w4 ⟨rfl, hb4⟩
        have H4 := Lib.hid (And.intro (thn H3.out.1 hb4) (H3.out.2.2.below hb4 H3.out.2.2.lt))
        clear hb4 c0 c1 c2 c3 c4 c5 c6 c7 c8
        have hrb := H4.out.2
        have f0 := hrb.frozen 0
        have f1 := hrb.frozen 1
        have d0 := hrb.cell 0
        have d1 := hrb.cell 1
        have hrl := hrb.lt
        simp only [List.getElem?_toArray, List.getElem?_cons_succ, List.getElem?_cons_zero] at d0 d1
        go_wp2_with fail
        have HB := ((hrb.set_ 0 (.int .i64 kc1)).set_ 1 (.bool kc2)).alloc (.cells #[.int .i64 kc1, .bool kc2] 77)
        have k0 := HB.cell 0
        have k1 := HB.cell 1
        simp at k0 k1
        exact bodyPost_ret (v := .tuple #[.agg #[.int .i64 kc1, .bool kc2], .int .i64 0]) (by simp [results, Tryz.results39, go_sem, k0, k1]) rfl ⟨by rw [HR.out.1, HR.out.2]; rfl, al ((H4.out.1.setCell (p := ⟨w.heap.size + 1, 0, none⟩) (by simp <;> omega) _).setCell (p := ⟨w.heap.size + 1, 1, none⟩) (by simp <;> omega) _) _⟩
    · have HR : Hid (kndR cs e = none ∧ kndF cs e = 30) := Lib.hid ⟨by unfold kndR; rw [hq]; simp, by unfold kndF; rw [if_pos hz, hq]; rfl⟩
      rw [hc] at HK
      unfold E.val
      clear hz hq hc
      go_enter Tryz.func39, Tryz.ntmps39
      go_wp2_with fail
      refine HC.out.mono ?_
      rintro x w2 ⟨rfl, hb2⟩
      have H2 := Lib.hid (And.intro (thn H0.out.1 hb2) (And.intro (H0.out.2.1.below hb2 H0.out.2.1.lt) (H0.out.2.2.below hb2 H0.out.2.2.lt)))
      clear hb2
      have a0 := H2.out.2.1
      have c0 := a0.cell 0
      have c1 := a0.cell 1
      have c2 := a0.cell 2
      have c3 := a0.cell 3
      have c4 := a0.cell 4
      have c5 := a0.cell 5
      have c6 := a0.cell 6
      have c7 := a0.cell 7
      have c8 := a0.cell 8
      simp only [List.getElem?_toArray, List.getElem?_cons_succ, List.getElem?_cons_zero] at c0 c1 c2 c3 c4 c5 c6 c7 c8
      clear a0
      go_wp2_with fail
      refine (HK.out _ _ (Blk.new' rfl) (al H2.out.1 _)).mono ?_
      rintro x w3 ⟨rfl, hb3⟩
      have H3 := Lib.hid (And.intro (thn (al H2.out.1 _) hb3) (And.intro ((H2.out.2.1.alloc _).below hb3 (by have := H2.out.2.1.lt; simp; omega)) ((H2.out.2.2.alloc _).below hb3 (by have := H2.out.2.2.lt; simp; omega))))
      clear hb3 c0 c1 c2 c3 c4 c5 c6 c7 c8
      have hrb := H3.out.2.2
      have f0 := hrb.frozen 0
      have f1 := hrb.frozen 1
      have d0 := hrb.cell 0
      have d1 := hrb.cell 1
      have hrl := hrb.lt
      simp only [List.getElem?_toArray, List.getElem?_cons_succ, List.getElem?_cons_zero] at d0 d1
      go_wp2_with fail
      have HB := (hrb.set_ 0 (.int .i64 0)).set_ 1 (.bool false)
      have k0 := HB.cell 0
      have k1 := HB.cell 1
      simp at k0 k1
      exact bodyPost_ret (v := .tuple #[.agg #[.int .i64 0, .bool false], .int .i64 30]) (by simp [results, Tryz.results39, go_sem, k0, k1]) rfl ⟨by rw [HR.out.1, HR.out.2]; rfl, (H3.out.1.setCell (p := ⟨w.heap.size + 1, 0, none⟩) (by simp <;> omega) _).setCell (p := ⟨w.heap.size + 1, 1, none⟩) (by simp <;> omega) _⟩
  · have HR : Hid (kndR cs e = none ∧ kndF cs e = 20) := Lib.hid ⟨by unfold kndR; rw [if_neg (by omega)], by unfold kndF; rw [if_neg (by omega)]⟩
    have hne : (colsE cs != 0) = true := by rw [bne_iff_ne]; omega
    unfold E.val
    go_enter Tryz.func39, Tryz.ntmps39
    go_wp2_with fail
    refine HC.out.mono ?_
    rintro x w2 ⟨rfl, hb2⟩
    have H2 := Lib.hid (And.intro (thn H0.out.1 hb2) (H0.out.2.2.below hb2 H0.out.2.2.lt))
    clear hb2
    have hrb := H2.out.2
    have f0 := hrb.frozen 0
    have f1 := hrb.frozen 1
    have d0 := hrb.cell 0
    have d1 := hrb.cell 1
    have hrl := hrb.lt
    simp only [List.getElem?_toArray, List.getElem?_cons_succ, List.getElem?_cons_zero] at d0 d1
    go_wp2_with fail
    have HB := (hrb.set_ 0 (.int .i64 0)).set_ 1 (.bool false)
    have k0 := HB.cell 0
    have k1 := HB.cell 1
    simp at k0 k1
    exact bodyPost_ret (v := .tuple #[.agg #[.int .i64 0, .bool false], .int .i64 20]) (by simp [results, Tryz.results39, go_sem, k0, k1]) rfl ⟨by rw [HR.out.1, HR.out.2]; rfl, (H2.out.1.setCell (p := ⟨w.heap.size + 1, 0, none⟩) (by simp <;> omega) _).setCell (p := ⟨w.heap.size + 1, 1, none⟩) (by simp <;> omega) _⟩
end Go.Proofs.YtdiehgfldndgbaaGreatDoor
namespace Go.Proofs.YtdiehgfldndgbaaGreatDoor
open Go.RowKit Go.Deep

theorem infoInt : (Tryz.prog.info? 3).map (fun i => (i.zero, i.size, i.bytes)) = some (some (.int .i64 0), 1, 8) := by kernel_rfl
def icells (l : List Int) : List Value := l.map (Value.int .i64)
theorem icells_len (l : List Int) : (icells l).length = l.length * 1 := by unfold icells; simp
theorem icells_one (l : List Int) : ∀ u ∈ icells l, u.oneCell' = true := fun u hu => by
  unfold icells at hu
  obtain ⟨x, _, rfl⟩ := List.mem_map.1 hu
  rfl
theorem icells_append (l r : List Int) : icells (l ++ r) = icells l ++ icells r := by simp [icells]
/-- one number in a block of its own, as the append's source -/
theorem Reads.int {w : World} {g B : Nat} {T : TypeId} {n : Int} (k : Blk w g T #[.int .i64 n]) (hg : g < B) : Reads w B 1 (some ⟨g, 0, none⟩) 1 (icells [n]) :=
  ⟨rfl, fun _ => ⟨_, rfl, hg, fun j x hj => by
    rw [addN, Nat.zero_add, k.cell j]
    have e : icells [n] = [.int .i64 n] := rfl
    rw [e] at hj
    rw [← hj]
    simp⟩⟩
/-- the captured list: its variable, its row -/
structure CS (w : World) (g : Nat) (v : Value) (ns : List Int) : Prop where
  b : Blk w g 39 #[v]
  r : w.ownsRow (g + 1) 3 1 v ns.length (icells ns)
/-- what a call leaves alone -/
structure CK (g : Nat) (v v' : Value) (w w' : World) : Prop where
  os : w'.os = w.os
  tape : w'.tape = w.tape
  output : w'.output = w.output
  size : w.heap.size ≤ w'.heap.size
  block : ∀ b, b < w.heap.size → b ≠ g → some b ≠ v.ownBlock → w'.heap[b]? = w.heap[b]?
  own : v'.ownBlock = v.ownBlock ∨ ∃ b, v'.ownBlock = some b ∧ w.heap.size ≤ b
theorem CK.of {g : Nat} {v : Value} {w w' : World} (h : Below w.heap.size w w') : CK g v v w w' := ⟨h.os, h.tape, h.output, h.size, fun b hb _ _ => h.block b hb, .inl rfl⟩
theorem CK.trans {g : Nat} {v v' v'' : Value} {w w' w'' : World} (h : CK g v v' w w') (k : CK g v' v'' w' w'') : CK g v v'' w w'' where
  os := k.os.trans h.os
  tape := k.tape.trans h.tape
  output := k.output.trans h.output
  size := Nat.le_trans h.size k.size
  block b hb hg hv := by
    refine (k.block b (Nat.lt_of_lt_of_le hb h.size) hg fun e => ?_).trans (h.block b hb hg hv)
    rcases h.own with h1 | ⟨c, h1, h2⟩
    · exact hv (e.trans h1)
    · rw [h1] at e
      injection e with e
      omega
  own := by
    rcases k.own with k1 | ⟨c, k1, k2⟩
    · rw [k1]; exact h.own
    · exact .inr ⟨c, k1, Nat.le_trans h.size k2⟩
theorem CS.lt {w : World} {g : Nat} {v : Value} {ns : List Int} (h : CS w g v ns) : g < w.heap.size := h.b.lt
theorem CS.below {w w' : World} {g : Nat} {v : Value} {ns : List Int} (h : CS w g v ns) (hb : Below w.heap.size w w') : CS w' g v ns := ⟨h.b.below hb h.b.lt, own_below h.r hb⟩
/-- what lies ahead of the variable stands -/
theorem CK.lo {w w' : World} {g : Nat} {v v' : Value} {ns : List Int} (h : CK g v v' w w') (k : CS w g v ns) (b : Nat) (hb : b < g) : w'.heap[b]? = w.heap[b]? :=
  h.block b (by have := k.lt; omega) (by omega) fun e => by have := (k.r.lt b e.symm).1; omega
theorem CK.cell {w w' : World} {g : Nat} {v v' : Value} {ns : List Int} (h : CK g v v' w w') (k : CS w g v ns) (b o : Nat) (hb : b < g) : w'.cell? ⟨b, o, none⟩ = w.cell? ⟨b, o, none⟩ := World.cell?_of_block (a := ⟨b, o, none⟩) (h.lo k b hb)
theorem allE_of (e : E) : allE e = (if e.op = 1 then [e.n] else []) ++ allL e.args := by cases e; rw [allE]; rfl
theorem allL_take : ∀ (l : List E) (k : Nat) (h : k < l.length), allL (l.take (k + 1)) = allL (l.take k) ++ allE l[k]
  | e :: l, 0, _ => by simp [allL]
  | e :: l, k + 1, h => by
    simp only [List.take_succ_cons, allL, List.getElem_cons_succ]
    rw [allL_take l k (by simpa using h), List.append_assoc]
mutual
theorem allE_len : ∀ e : E, (allE e).length ≤ nodesE e
  | .mk op n m k lit args rels => by
    have h1 := allL_len args
    have h2 := nodesE_args (.mk op n m k lit args rels)
    have h3 : (E.mk op n m k lit args rels).args = args := rfl
    rw [h3] at h2
    rw [allE]
    split <;> simp <;> omega
theorem allL_len : ∀ l : List E, (allL l).length ≤ nodesL l
  | [] => by simp [allL]
  | e :: l => by
    have h1 := allE_len e
    have h2 := allL_len l
    rw [allL, List.length_append]
    simp only [nodesL]
    omega
end
theorem own_sliceE {w : World} {base : Nat} {e : TypeId} {size n : Nat} {v : Value} {xs : List Value} (h : w.ownsRow base e size v n xs) : ∃ ao c, v = .slice ao n c := by
  rcases h.2 with ⟨rfl, rfl⟩ | ⟨g, cap, cur, rfl, _⟩
  · exact ⟨_, _, rfl⟩
  · exact ⟨_, _, rfl⟩
set_option maxHeartbeats 2000000 in
set_option maxRecDepth 100000 in
theorem col1_any (e : E) (A R : Option Addr) (c d g : Nat) (v : Value) (ns : List Int) (w : World) (hS : CS w g v ns) (hn : ns.length ≤ 1000000) :
    Calls Tryz.prog 90 #[e.val A c R d, .pointer (some ⟨g, 0, none⟩)] w fun x w' => x = .returned (.tuple #[]) ∧ ∃ v', CS w' g v' (ns ++ if e.op = 1 then [e.n] else []) ∧ CK g v v' w w' := by
  have hb1 : Below w.heap.size w (w.alloc (.cells #[.int .i64 e.op, .int .i64 e.n, .int .i64 e.m, .int .i64 e.kind, .int .i64 e.lit.k, .int .i64 e.lit.n, .string e.lit.s, .slice A e.args.length c, .slice R e.rels.length d] 30)) := al (Below.refl _ _) _
  have HB := Lib.hid (And.intro hb1 (And.intro (hS.below hb1) (Blk.new w 30 #[.int .i64 e.op, .int .i64 e.n, .int .i64 e.m, .int .i64 e.kind, .int .i64 e.lit.k, .int .i64 e.lit.n, .string e.lit.s, .slice A e.args.length c, .slice R e.rels.length d])))
  have hgl := hS.lt
  clear hb1
  unfold E.val
  by_cases ho : e.op = 1
  · rw [if_pos ho]
    rw [ho] at HB ⊢
    obtain ⟨i0, hi, hz0, hz1, hz2⟩ := info_parts infoInt
    have hq := HB.out.2.1.b
    have x1 := hq.cell 0
    simp only [List.getElem?_toArray, List.getElem?_cons_zero] at x1
    clear hq hS ho
    have HBs := Lib.hid (show g < (w.alloc (.cells #[.int .i64 1, .int .i64 e.n, .int .i64 e.m, .int .i64 e.kind, .int .i64 e.lit.k, .int .i64 e.lit.n, .string e.lit.s, .slice A e.args.length c, .slice R e.rels.length d] 30)).heap.size by simp; omega)
    go_enter Tryz.func90, Tryz.ntmps90
    go_wp2_with (at_builtin; refine wpList_append_any _ rfl (.tmp 6) (.tmp 9) 39 rfl (g + 1) 3 i0 (.int .i64 0) 1 8 Tryz.underlying39 hi hz0 hz1 hz2 rfl (by decide) _ _ _ rfl (own_below HB.out.2.1.r (al (Below.refl _ _) _)) (w.heap.size + 1 + 1) _ 1 1 (icells [e.n]) rfl ?c0 ?c1 ?c2 ?c3 ?c4 ?_)
    case c0 => exact Reads.int (Blk.new' (g := w.heap.size + 1) (by simp)) (Nat.lt_succ_self _)
    case c1 => exact icells_one _
    case c2 => unfold maxLen; omega
    case c3 => omega
    case c4 => simp; omega
    intro v' w1 hown1 hgrow hv
    have hne : some g ≠ v.ownBlock := fun e1 => by have := (HB.out.2.1.r.lt g e1.symm).1; omega
    have HBg := Lib.hid ((HB.out.2.1.b.alloc (.cells #[.int .i64 e.n] 3)).grown hgrow hne)
    have HP : Hid (CS (w1.setCell ⟨g, 0, none⟩ v') g v' (ns ++ [e.n]) ∧ CK g v v' w (w1.setCell ⟨g, 0, none⟩ v')) := Lib.hid (by
      have hs2 : ((w.alloc (.cells #[.int .i64 1, .int .i64 e.n, .int .i64 e.m, .int .i64 e.kind, .int .i64 e.lit.k, .int .i64 e.lit.n, .string e.lit.s, .slice A e.args.length c, .slice R e.rels.length d] 30)).alloc (.cells #[.int .i64 e.n] 3)).heap.size = w.heap.size + 1 + 1 := by simp
      have hsg := hgrow.size
      have hsz : (w1.setCell ⟨g, 0, none⟩ v').heap.size = w1.heap.size := by simp
      refine ⟨⟨HBg.out.set_ 0 v', ?_⟩, ⟨hgrow.os.trans HB.out.1.os, hgrow.tape.trans HB.out.1.tape, hgrow.output.trans HB.out.1.output, by omega, fun b hb hbg hbv => ?_, hv.imp id fun h => ⟨_, h, by omega⟩⟩⟩
      · rw [icells_append, List.length_append]
        refine hown1.kept (grown_set w1 g 0 v') ?_
        cases hv' : v'.ownBlock with
        | none => exact .inl rfl
        | some b =>
          refine .inr fun e1 => ?_
          injection e1 with e1
          have := (hown1.lt b hv').1
          omega
      · rw [Below.heap_setCell w1 ⟨g, 0, none⟩ v' b hbg, hgrow.block b (by omega) hbv, Below.heap_alloc (w.alloc (.cells #[.int .i64 1, .int .i64 e.n, .int .i64 e.m, .int .i64 e.kind, .int .i64 e.lit.k, .int .i64 e.lit.n, .string e.lit.s, .slice A e.args.length c, .slice R e.rels.length d] 30)) _ b (by have := HB.out.1.size; omega)]
        exact HB.out.1.block b hb)
    have f0 := HBg.out.frozen 0
    have d0 := HBg.out.cell 0
    simp only [List.getElem?_toArray, List.getElem?_cons_zero] at d0
    obtain ⟨av, cv, rfl⟩ := own_sliceE hown1
    clear hown1 hgrow hv hne HBg
    go_wp2_with fail
    first | go_end0 | skip
    exact ⟨rfl, _, HP.out.1, HP.out.2⟩
  · rw [if_neg ho, List.append_nil]
    have hob : (e.op == 1) = false := beq_eq_false_iff_ne.2 ho
    go_enter Tryz.func90, Tryz.ntmps90
    go_wp2_with fail
    first | go_end0 | skip
    exact ⟨rfl, v, HB.out.2.1, CK.of HB.out.1⟩
theorem nodesL_split : ∀ (l : List E) (j : Nat) (h : j < l.length), nodesL (l.take j) + nodesE l[j] ≤ nodesL l
  | e :: l, 0, _ => by simp [nodesL]
  | e :: l, j + 1, h => by
    simp only [List.take_succ_cons, nodesL, List.getElem_cons_succ]
    have := nodesL_split l j (by simpa using h)
    omega
theorem CK.refl (g : Nat) (v : Value) (w : World) : CK g v v w w := CK.of (Below.refl _ _)
set_option maxHeartbeats 4000000 in
set_option maxRecDepth 100000 in
theorem through_any : ∀ (k : Nat) (e : E) (A R : Option Addr) (c d g : Nat) (v : Value) (ns : List Int) (w : World), nodesE e < k → k ≤ 100000 → CS w g v ns → ns.length + nodesE e ≤ 100000 → LOk w (Lo g) A e.args →
    Calls Tryz.prog 89 #[e.val A c R d, .func (.func 90) #[] #[.pointer (some ⟨g, 0, none⟩)]] w fun x w' => x = .returned (.tuple #[]) ∧ ∃ v', CS w' g v' (ns ++ allE e) ∧ CK g v v' w w' := by
  intro k
  induction k with
  | zero => intro e A R c d g v ns w h; exact absurd h (Nat.not_lt_zero _)
  | succ k ih =>
    intro e A R c d g v ns w hk hk1 hS hn hA
    have hnE := nodesE_args e
    have hln := nodesL_len e.args
    have hb1 : Below w.heap.size w (w.alloc (.cells #[.int .i64 e.op, .int .i64 e.n, .int .i64 e.m, .int .i64 e.kind, .int .i64 e.lit.k, .int .i64 e.lit.n, .string e.lit.s, .slice A e.args.length c, .slice R e.rels.length d] 30)) := al (Below.refl _ _) _
    have HB := Lib.hid (And.intro hb1 (And.intro (hS.below hb1) (Blk.new w 30 #[.int .i64 e.op, .int .i64 e.n, .int .i64 e.m, .int .i64 e.kind, .int .i64 e.lit.k, .int .i64 e.lit.n, .string e.lit.s, .slice A e.args.length c, .slice R e.rels.length d])))
    have hgl := hS.lt
    have HC1 := Lib.hid (col1_any e A R c d g v ns (w.alloc (.cells #[.int .i64 e.op, .int .i64 e.n, .int .i64 e.m, .int .i64 e.kind, .int .i64 e.lit.k, .int .i64 e.lit.n, .string e.lit.s, .slice A e.args.length c, .slice R e.rels.length d] 30)) (hS.below hb1) (by omega))
    have HA : Hid (LOk (w.alloc (.cells #[.int .i64 e.op, .int .i64 e.n, .int .i64 e.m, .int .i64 e.kind, .int .i64 e.lit.k, .int .i64 e.lit.n, .string e.lit.s, .slice A e.args.length c, .slice R e.rels.length d] 30)) (Lo g) A e.args) := Lib.hid (hA.kept (fun b hb => hb1.block b (by have : b < g := hb; omega)) fun b hb => hb)
    have IH := Lib.hid ih
    have HE := Lib.hid (allE_of e)
    have HS := Lib.hid hS
    clear ih hA hS hb1
    unfold E.val at HC1 ⊢
    go_enter Tryz.func89, Tryz.ntmps89
    go_wp2_with fail
    refine HC1.out.mono ?_
    rintro x w2 ⟨rfl, v2, hS2, hK2⟩
    have H2 : Hid (CS w2 g v2 (ns ++ if e.op = 1 then [e.n] else []) ∧ CK g v v2 w w2 ∧ Blk w2 w.heap.size 30 #[.int .i64 e.op, .int .i64 e.n, .int .i64 e.m, .int .i64 e.kind, .int .i64 e.lit.k, .int .i64 e.lit.n, .string e.lit.s, .slice A e.args.length c, .slice R e.rels.length d] ∧ LOk w2 (Lo g) A e.args) := Lib.hid ⟨hS2, CK.trans (CK.of HB.out.1) hK2, (hK2.block w.heap.size (by simp) (by omega) (fun e1 => by have := (HS.out.r.lt w.heap.size e1.symm).2; omega)).trans HB.out.2.2, HA.out.kept (fun b hb => hK2.lo HB.out.2.1 b hb) fun b hb => hb⟩
    have hq := H2.out.2.2.1
    have y7 := hq.cell 7
    simp only [List.getElem?_toArray, List.getElem?_cons_succ, List.getElem?_cons_zero] at y7
    clear hq hS2 hK2 HC1 HA HB
    go_wp2_with fail
    clear y7
    go_loopw [12] (fun iv wr => ∃ (j : Nat) (vj : Value), j ≤ e.args.length ∧ iv = .int .i64 j ∧ Hid (CS wr g vj (ns ++ ((if e.op = 1 then [e.n] else []) ++ allL (e.args.take j))) ∧ CK g v2 vj w2 wr)) (fun iv _ => e.args.length - (intOf iv).toNat)
    case atStart => exact ⟨0, v2, Nat.zero_le _, rfl, Lib.hid ⟨by rw [List.take_zero, allL, List.append_nil]; exact H2.out.1, CK.refl _ _ _⟩⟩
    case round =>
      obtain ⟨j, vj, hj, rfl, HJ⟩ := hrel
      by_cases hlt : j < e.args.length
      · have hlti : (j : Int) < (e.args.length : Int) := by omega
        have HLr : Hid (LOk wr (Lo g) A e.args) := Lib.hid (H2.out.2.2.2.kept (fun b hb => HJ.out.2.lo H2.out.1 b hb) fun b hb => hb)
        obtain ⟨b, o, rfl, hb, he⟩ := HLr.out.at_ hlt
        obtain ⟨z0, z1, z2, z3, z4, z5, z6, ⟨A1, c1, z7, z8⟩, R1, d1, z9, z10⟩ := EOk.mk_.1 he
        have x0 : wr.cell? ⟨b, o + j * 9, none⟩ = some (.int .i64 e.args[j].op) := z0
        have x1 : wr.cell? ⟨b, o + j * 9 + 1, none⟩ = some (.int .i64 e.args[j].n) := z1
        have x2 : wr.cell? ⟨b, o + j * 9 + 2, none⟩ = some (.int .i64 e.args[j].m) := z2
        have x3 : wr.cell? ⟨b, o + j * 9 + 3, none⟩ = some (.int .i64 e.args[j].kind) := z3
        have x4 : wr.cell? ⟨b, o + j * 9 + 4, none⟩ = some (.int .i64 e.args[j].lit.k) := z4
        have x5 : wr.cell? ⟨b, o + j * 9 + 5, none⟩ = some (.int .i64 e.args[j].lit.n) := z5
        have x6 : wr.cell? ⟨b, o + j * 9 + 6, none⟩ = some (.string e.args[j].lit.s) := z6
        have x7 : wr.cell? ⟨b, o + j * 9 + 7, none⟩ = some (.slice A1 e.args[j].args.length c1) := z7
        have x8 : wr.cell? ⟨b, o + j * 9 + 8, none⟩ = some (.slice R1 e.args[j].rels.length d1) := z9
        have hb2 : Below wr.heap.size wr (wr.alloc (.cells #[.int .i64 e.args[j].op, .int .i64 e.args[j].n, .int .i64 e.args[j].m, .int .i64 e.args[j].kind, .int .i64 e.args[j].lit.k, .int .i64 e.args[j].lit.n, .string e.args[j].lit.s, .slice A1 e.args[j].args.length c1, .slice R1 e.args[j].rels.length d1] 30)) := al (Below.refl _ _) _
        have hlen : (ns ++ ((if e.op = 1 then [e.n] else []) ++ allL (e.args.take j))).length + nodesE e.args[j] ≤ 100000 := by
          have h1 := allE_len e
          have h2 : (allL (e.args.take j)).length + nodesE e.args[j] ≤ nodesL e.args := by
            have h3 := allL_len (e.args.take j)
            have h4 := nodesL_split e.args j hlt
            omega
          rw [List.length_append, List.length_append]
          have h5 : (if e.op = 1 then [e.n] else []).length ≤ 1 := by split <;> simp
          omega
        have hnm := nodesL_mem (List.getElem_mem hlt)
        have HK : Hid (Calls Tryz.prog 89 #[e.args[j].val A1 c1 R1 d1, .func (.func 90) #[] #[.pointer (some ⟨g, 0, none⟩)]] (wr.alloc (.cells #[.int .i64 e.args[j].op, .int .i64 e.args[j].n, .int .i64 e.args[j].m, .int .i64 e.args[j].kind, .int .i64 e.args[j].lit.k, .int .i64 e.args[j].lit.n, .string e.args[j].lit.s, .slice A1 e.args[j].args.length c1, .slice R1 e.args[j].rels.length d1] 30)) fun x w' => x = .returned (.tuple #[]) ∧ ∃ v', CS w' g v' ((ns ++ ((if e.op = 1 then [e.n] else []) ++ allL (e.args.take j))) ++ allE e.args[j]) ∧ CK g vj v' (wr.alloc (.cells #[.int .i64 e.args[j].op, .int .i64 e.args[j].n, .int .i64 e.args[j].m, .int .i64 e.args[j].kind, .int .i64 e.args[j].lit.k, .int .i64 e.args[j].lit.n, .string e.args[j].lit.s, .slice A1 e.args[j].args.length c1, .slice R1 e.args[j].rels.length d1] 30)) w') := Lib.hid
          (IH.out e.args[j] A1 R1 c1 d1 g vj _ _ (by omega) (by omega) (HJ.out.1.below hb2) hlen (z8.kept (fun b hb => hb2.block b (by have : b < g := hb; have := HJ.out.1.lt; omega)) fun b hb => hb))
        have HTk : Hid ((ns ++ ((if e.op = 1 then [e.n] else []) ++ allL (e.args.take j))) ++ allE e.args[j] = ns ++ ((if e.op = 1 then [e.n] else []) ++ allL (e.args.take (j + 1)))) := Lib.hid (by rw [allL_take e.args j hlt]; simp only [List.append_assoc])
        have HCal := Lib.hid (CK.of (g := g) (v := vj) hb2)
        clear z0 z1 z2 z3 z4 z5 z6 z7 z8 z9 z10 he hlen hnm hb2 HLr
        generalize e.args[j] = ei at *
        unfold E.val at HK
        go_wp2_with fail
        refine HK.out.mono ?_
        rintro x w3 ⟨rfl, v3, hS3, hK3⟩
        have HN : Hid (CS w3 g v3 (ns ++ ((if e.op = 1 then [e.n] else []) ++ allL (e.args.take (j + 1)))) ∧ CK g v2 v3 w2 w3) := Lib.hid ⟨by rw [← HTk.out]; exact hS3, CK.trans (CK.trans HJ.out.2 HCal.out) hK3⟩
        clear hS3 hK3
        go_wp2_with fail
        exact ⟨⟨j + 1, v3, by omega, by go_num, HN⟩, by simp [intOf]; omega⟩
      · have hlf : decide ((j : Int) < (e.args.length : Int)) = false := decide_eq_false (by omega)
        have HF : Hid (CS wr g vj (ns ++ allE e) ∧ CK g v vj w wr) := Lib.hid ⟨by
          have h := HJ.out.1
          rw [List.take_of_length_le (by omega), ← HE.out] at h
          exact h, CK.trans H2.out.2.1 HJ.out.2⟩
        go_wp2_with fail
        first | go_end0 | skip
        exact ⟨rfl, vj, HF.out.1, HF.out.2⟩
end Go.Proofs.YtdiehgfldndgbaaGreatDoor
