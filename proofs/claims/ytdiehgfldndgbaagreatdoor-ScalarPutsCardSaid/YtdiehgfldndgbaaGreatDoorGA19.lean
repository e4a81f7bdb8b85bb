/-
  Npn: CONTRACT of the parser's number.
  PsN: CONTRACTS of the parser: literals of null, and expr at each kind of leaf.
  PsW: MATHEMATICS of the parser: which operation's word a string begins with.
  PsX: CONTRACT of the parser's expr at a literal, and at an operation with arguments.
  PsY: CONTRACT of the parser's expr: at the string of an expression that has the form it reads that expression, in new memory.
  Par: CONTRACT of scalar.Parse at the string of an expression that has the form.
  SmM: MATHEMATICS: what is cut is as what came in; the two notions of 'equal data' agree where there are no relations.
  CtL: CONTRACT of the law's Cut.
-/
import Derived.Test.YtdiehgfldndgbaaGreatDoorGA17
import Derived.Test.YtdiehgfldndgbaaGreatDoorGA01
import Derived.Lib.ParseIntBTie
import Derived.Shelf.Strings.SlTrimAscii
import Derived.Test.YtdiehgfldndgbaaGreatDoorGA18
import Derived.Recover
import Derived.Test.YtdiehgfldndgbaaGreatDoorSam
import Derived.Test.YtdiehgfldndgbaaGreatDoorGA11
import Derived.Test.YtdiehgfldndgbaaGreatDoorGA10
namespace Go.Proofs.YtdiehgfldndgbaaGreatDoor
open Go.RowKit Go.Deep

def digs : List UInt8 := [48, 49, 50, 51, 52, 53, 54, 55, 56, 57]
theorem digs_hit {c : UInt8} (h : 48 ≤ c.toNat ∧ c.toNat ≤ 57) : digs.contains c = true := by
  have hc : c = UInt8.ofNat c.toNat := by simp
  have : c.toNat = 48 ∨ c.toNat = 49 ∨ c.toNat = 50 ∨ c.toNat = 51 ∨ c.toNat = 52 ∨ c.toNat = 53 ∨ c.toNat = 54 ∨ c.toNat = 55 ∨ c.toNat = 56 ∨ c.toNat = 57 := by omega
  rcases this with e | e | e | e | e | e | e | e | e | e <;> (rw [e] at hc; subst hc; decide)
theorem trim_app (cs : List UInt8) : ∀ l t : List UInt8, (∀ c ∈ l, cs.contains c = true) → (∀ c r, t = c :: r → cs.contains c = false) → Lib.trimLeftS (l ++ t) cs = t
  | [], [], _, _ => rfl
  | [], c :: t, _, h => by
    have := h c t rfl
    unfold Lib.trimLeftS
    rw [List.nil_append, List.dropWhile_cons, this]; rfl
  | c :: l, t, h1, h2 => by
    have ih := trim_app cs l t (fun x hx => h1 x (List.mem_cons_of_mem _ hx)) h2
    have := h1 c (List.mem_cons_self ..)
    unfold Lib.trimLeftS at ih ⊢
    rw [List.cons_append, List.dropWhile_cons, this]
    exact ih
theorem trim_itoa (n : Int) (h0 : 0 ≤ n) (t : List UInt8) (ht : ∀ c r, t = c :: r → digs.contains c = false) : Lib.trimLeftS (Lib.itoa n ++ t) digs = t := by
  have e : Lib.itoa n = Lib.decDigits n.toNat := by unfold Lib.itoa; rw [if_neg (by omega)]
  rw [e]
  exact trim_app digs _ t (fun c hc => digs_hit ((dec_dig _).2 c hc)) ht
theorem atoi_itoa (n : Int) (h : I64 n) : Lib.atoiAll (Lib.itoa n) = .ok n := by
  rw [← Lib.parseIntB_64]
  exact parse_itoa n h
theorem set_info : (Tryz.prog.info? (Tryz.lays161_ren.t 116)).map (fun i => (i.zero, i.size)) = some (some (.agg (Array.replicate 256 (.bool false))), 256) := by kernel_rfl
theorem digs_size : (⟨#[48, 49, 50, 51, 52, 53, 54, 55, 56, 57]⟩ : ByteArray).size < 4294967281 := by decide
theorem digs_ascii : ∀ (j : Nat) (b : UInt8), (⟨#[48, 49, 50, 51, 52, 53, 54, 55, 56, 57]⟩ : ByteArray).data.toList[j]? = some b → b.toNat < 128 := ascii_of_all (by decide)
theorem TrimDigits_any (s : ByteArray) (W : World) : Calls Tryz.prog 143 #[.string s, .string ⟨#[48, 49, 50, 51, 52, 53, 54, 55, 56, 57]⟩] W (fun e w' => e = .returned (.string ⟨(Lib.trimLeftS s.data.toList digs).toArray⟩) ∧ Below W.heap.size W w') := Any.strings_TrimLeft_laid Tryz.lays161 set_info s _ W digs_size digs_ascii
set_option maxHeartbeats 8000000 in
set_option maxRecDepth 100000 in
theorem numberW_any (n : Int) (t : List UInt8) (g : Nat) (w : World) (hn : I64 n) (h0 : 0 ≤ n) (ht : ∀ c r, t = c :: r → digs.contains c = false) (hB : PAt w g (Lib.itoa n ++ t)) (hl : (Lib.itoa n ++ t).length ≤ 1000000) :
    Calls Tryz.prog 97 #[.pointer (some ⟨g, 0, none⟩)] w fun x w' => x = .returned (.int .i64 n) ∧ But g w w' ∧ PAt w' g t := by
  have htr := trim_itoa n h0 t ht
  have hat := atoi_itoa n hn
  have hdl := (itoa_len n hn).1
  obtain ⟨ds, hds⟩ : ∃ l, l = Lib.itoa n := ⟨_, rfl⟩
  rw [← hds] at htr hat hdl hB hl
  obtain ⟨s, hs⟩ : ∃ s : ByteArray, s = ⟨(ds ++ t).toArray⟩ := ⟨_, rfl⟩
  obtain ⟨tb, hu⟩ : ∃ tb : ByteArray, tb = ⟨t.toArray⟩ := ⟨_, rfl⟩
  have hsu : tb.size = t.length := by rw [hu]; show t.toArray.size = _; simp
  have hsz : s.size = ds.length + tb.size := by rw [hs, hsu]; show (ds ++ t).toArray.size = _; simp
  have hsl : s.size ≤ 1000000 := by rw [hsz, hsu]; simpa using hl
  have HT : Hid (∀ W, Calls Tryz.prog 143 #[.string s, .string ⟨#[48, 49, 50, 51, 52, 53, 54, 55, 56, 57]⟩] W fun x w' => x = .returned (.string tb) ∧ Below W.heap.size W w') := Lib.hid fun W => by
    have h := TrimDigits_any s W
    rw [show s.data.toList = ds ++ t by rw [hs], htr, ← hu] at h
    exact h
  have HTk : Hid (∀ W, PAt W g (ds ++ t) → Calls Tryz.prog 142 #[.pointer (some ⟨g, 0, none⟩), .int .i64 (ds.length : Nat)] W fun x w' => x = .returned (.string ⟨ds.toArray⟩) ∧ But g W w' ∧ PAt w' g t) := Lib.hid fun W h => take_any g ds t W h hl
  have HAt : Hid (∀ W, Calls Tryz.prog 141 #[.string ⟨ds.toArray⟩] W fun x w' => x = .returned (.tuple #[.int .i64 n, .nilIface]) ∧ Below W.heap.size W w') := Lib.hid fun W =>
    (Tryz.strconv_Atoi_ok ⟨ds.toArray⟩ (by show ds.toArray.size ≤ _; simp; omega) n hat W).mono fun _ w' ⟨h, k⟩ => ⟨h, by
      rcases k with rfl | ⟨tt, rfl⟩
      · exact Below.refl _ _
      · exact below_bytes _ _ _⟩
  have HB := Lib.hid hB
  have HC : Hid (w.cell? ⟨g, 0, none⟩ = some (.string s)) := Lib.hid (by
    have c0 := Blk.cell hB 0
    simp only [List.getElem?_toArray, List.getElem?_cons_zero] at c0
    rw [c0, hs])
  have hwr : IntKind.i64.wrap (ds.length : Int) = (ds.length : Int) := IntWalk.i64_in _ (by omega)
  clear htr hat hB hl hs hu hsu hds ht
  go_enter Tryz.func97, Tryz.ntmps97
  go_upto_region 1 with fail
  have c0 := HC.out
  have c1 : w.drew.cell? ⟨g, 0, none⟩ = some (.string s) := c0
  go_region_with (first
    | (go_at_call 143; refine (HT.out _).mono ?_; rintro x w9 ⟨rfl, hb9⟩; have hb9 : Below w.heap.size w w9 := ⟨hb9.os, hb9.tape, hb9.output, hb9.size, hb9.block⟩; have c9 := (hb9.cell (p := ⟨g, 0, none⟩) (Blk.lt HB.out)).trans HC.out)
    | (go_at_call 142; refine (HTk.out w9 (PAt.below HB.out hb9)).mono ?_; rintro x w2 ⟨rfl, hb2, hp2⟩; have H2 := Lib.hid (And.intro ((But.of hb9).thn hb2) hp2); clear hb2 hp2 c9)
    | (go_at_call 141; refine (HAt.out w2).mono ?_; rintro x w3 ⟨rfl, hb3⟩; have H3 := Lib.hid (And.intro (H2.out.1.thn (But.of hb3)) (H2.out.2.below hb3)); clear hb3))
  all_goals go_wp2_with fail
  all_goals go_ret
  all_goals exact ⟨rfl, H3.out⟩
end Go.Proofs.YtdiehgfldndgbaaGreatDoor
namespace Go.Proofs.YtdiehgfldndgbaaGreatDoor
open Go.RowKit Go.Deep

theorem But.set9 {g b : Nat} {w w1 : World} (h : But g w w1) (hb : w.heap.size ≤ b) (a0 a1 a2 a3 a4 a5 a6 a7 a8 : Value) : But g w (set9 w1 b a0 a1 a2 a3 a4 a5 a6 a7 a8) :=
  ((((((((h.far (grown_set _ b 0 a0) hb).far (grown_set _ b 1 a1) hb).far (grown_set _ b 2 a2) hb).far (grown_set _ b 3 a3) hb).far (grown_set _ b 4 a4) hb).far (grown_set _ b 5 a5) hb).far (grown_set _ b 6 a6) hb).far (grown_set _ b 7 a7) hb).far (grown_set _ b 8 a8) hb
theorem PAt.far9 {w : World} {g g' : Nat} {l : List UInt8} (h : PAt w g l) (hg : g ≠ g') (a0 a1 a2 a3 a4 a5 a6 a7 a8 : Value) : PAt (Go.Proofs.YtdiehgfldndgbaaGreatDoor.set9 w g' a0 a1 a2 a3 a4 a5 a6 a7 a8) g l := Blk.far9 h hg a0 a1 a2 a3 a4 a5 a6 a7 a8
theorem Stp.digs {t : List UInt8} (h : Stp t) : ∀ c r, t = c :: r → Go.Proofs.YtdiehgfldndgbaaGreatDoor.digs.contains c = false := fun c r e => by
  rcases h c r e with rfl | rfl <;> decide
theorem Stp.stops {t : List UInt8} (h : Stp t) : ∀ c r, t = c :: r → c.toNat ≠ 39 ∧ Go.Proofs.YtdiehgfldndgbaaGreatDoor.stops c = true := fun c r e => by
  rcases h c r e with rfl | rfl <;> exact ⟨by decide, by decide⟩
theorem hasP_ne {c d : UInt8} {r p : List UInt8} (h : d ≠ c) : Lib.hasPrefix (c :: r) (d :: p) = false := by
  have : (d == c) = false := beq_eq_false_iff_ne.2 h
  show (d == c && List.isPrefixOf p r) = false
  rw [this]; rfl

set_option maxHeartbeats 4000000 in
set_option maxRecDepth 100000 in
theorem parseNull_any (k : Nat) (t : List UInt8) (g : Nat) (w : World) (h1 : 1 ≤ k) (h3 : k ≤ 3) (hG : GE w) (hS : GS w) (hg : 9 ≤ g) (hB : PAt w g ([110, 117, 108, 108, 58] ++ ((kwB k).data.toList ++ t))) (hn : ([110, 117, 108, 108, 58] ++ ((kwB k).data.toList ++ t)).length ≤ 1000000) :
    Calls Tryz.prog 100 #[.pointer (some ⟨g, 0, none⟩)] w fun x w' => x = .returned (.agg #[.int .i64 3, .int .i64 0, .int .i64 0, .int .i64 (k : Nat), .int .i64 0, .int .i64 0, .string ⟨#[]⟩, .slice none 0 0, .slice none 0 0]) ∧ But g w w' ∧ PAt w' g t := by
  have hgl : g < w.heap.size := Blk.lt hB
  obtain ⟨t2, ht2⟩ : ∃ l, l = (kwB k).data.toList ++ t := ⟨_, rfl⟩
  have hsl0 : strB 0 0 ⟨#[]⟩ = [110, 117, 108, 108] := rfl
  have hv : V.ok ⟨0, 0, ⟨#[]⟩⟩ = true := rfl
  have hI : I64 0 := ⟨by decide, by decide⟩
  have hend := end_strB ⟨0, 0, ⟨#[]⟩⟩ hv (58 :: t2) (fun c r e => by injection e with e _; subst e; exact ⟨by decide, by decide⟩)
  have hps := parses_strB 0 0 ⟨#[]⟩ hv hI
  have hrd := readV_strB 0 0 ⟨#[]⟩ hv hI
  rw [← ht2] at hB hn
  obtain ⟨sl, hsl⟩ : ∃ l : List UInt8, l = [110, 117, 108, 108] := ⟨_, rfl⟩
  have hlen : sl.length ≤ 4 := by rw [hsl]; exact Nat.le_refl _
  rw [hsl0] at hend hps hrd
  change PAt w g ([110, 117, 108, 108] ++ 58 :: t2) at hB
  change ([110, 117, 108, 108] ++ 58 :: t2).length ≤ 1000000 at hn
  rw [← hsl] at hend hps hrd hB hn
  obtain ⟨s, hs⟩ : ∃ s : ByteArray, s = ⟨(sl ++ 58 :: t2).toArray⟩ := ⟨_, rfl⟩
  have HEnd : Hid (∀ W, Calls Tryz.prog 145 #[.string s] W fun x w' => x = .returned (.int .i64 (sl.length : Nat)) ∧ w' = W) := Lib.hid fun W => by
    have h := end_any s W (by rw [hs]; show (sl ++ 58 :: t2).toArray.size ≤ _; simpa using hn)
    rw [show s.data.toList = sl ++ 58 :: t2 by rw [hs]] at h
    rw [hend] at h
    exact h
  have HTk : Hid (∀ W, PAt W g (sl ++ 58 :: t2) → Calls Tryz.prog 142 #[.pointer (some ⟨g, 0, none⟩), .int .i64 (sl.length : Nat)] W fun x w' => x = .returned (.string ⟨sl.toArray⟩) ∧ But g W w' ∧ PAt w' g (58 :: t2)) := Lib.hid fun W h => take_any g sl (58 :: t2) W h hn
  have HPs : Hid (∀ W, GE W → Calls Tryz.prog 144 #[.string ⟨sl.toArray⟩] W fun x w' => x = .returned (.tuple #[.agg #[.int .i64 0, .int .i64 0, .string ⟨#[]⟩], .int .i64 0]) ∧ Below W.heap.size W w') := Lib.hid fun W h => by
    have k := Parse_yes ⟨sl.toArray⟩ W h (by show sl.toArray.size ≤ _; simp; omega) hps
    rw [hrd] at k
    exact k
  have HNd : Hid (∀ W, PAt W g (58 :: t2) → Calls Tryz.prog 98 #[.pointer (some ⟨g, 0, none⟩), .string ⟨#[58]⟩] W fun x w' => x = .returned (.tuple #[]) ∧ But g W w' ∧ PAt w' g t2) := Lib.hid fun W h => need_hit g (58 :: t2) t2 ⟨#[58]⟩ W h rfl
  have HKd : Hid (∀ W, GS W → PAt W g t2 → Calls Tryz.prog 146 #[.pointer (some ⟨g, 0, none⟩)] W fun x w' => x = .returned (.int .i64 (k : Nat)) ∧ But g W w' ∧ PAt w' g t) := Lib.hid fun W h hp => kindW_any g k t W h (by omega) h1 h3 (by rw [← ht2]; exact hp)
  have HW0 : Hid (∀ o, But g w (w.alloc o) ∧ PAt (w.alloc o) g (sl ++ 58 :: t2) ∧ GE (w.alloc o)) := Lib.hid fun o => ⟨World.grownBy_alloc w o _, hB.below (al (Below.refl _ _) _), hG.thn (al (Below.refl _ _) _)⟩
  have HGS := Lib.hid hS
  unfold PAt at hB
  rw [← hs] at hB
  have c0 := hB.cell 0
  simp only [List.getElem?_toArray, List.getElem?_cons_zero] at c0
  have HN := Lib.hid (fun W => isNullV_any ⟨0, 0, ⟨#[]⟩⟩ W)
  rw [show ((0 : Int) == 0) = true from rfl] at HN
  clear hend hlen hps hrd hsl hB hG hS hn hv hI hs hsl0 ht2
  go_enter Tryz.func100, Tryz.ntmps100
  go_wp2_with fail
  refine (HEnd.out _).mono ?_
  rintro x w1 ⟨rfl, rfl⟩
  go_wp2_with fail
  refine (HTk.out _ (HW0.out _).2.1).mono ?_
  rintro x w2 ⟨rfl, hb2, hp2⟩
  have HB2 := Lib.hid (Blk.new' (w := w) (g := w.heap.size) (t := 30) (cs := #[.int .i64 0, .int .i64 0, .int .i64 0, .int .i64 0, .int .i64 0, .int .i64 0, .string ⟨#[]⟩, .slice none 0 0, .slice none 0 0]) rfl)
  have H2 := Lib.hid (And.intro ((HW0.out _).1.thn hb2) (And.intro hp2 (And.intro ((HW0.out _).2.2.but hb2 hg) (HB2.out.grown hb2 (by intro e; injection e with e; omega)))))
  clear hb2 hp2
  go_wp2_with fail
  refine (HPs.out _ H2.out.2.2.1).mono ?_
  rintro x w3 ⟨rfl, hb3⟩
  have H3 := Lib.hid (And.intro (H2.out.1.thn (But.of hb3)) (And.intro (H2.out.2.1.below hb3) (H2.out.2.2.2.below hb3 H2.out.2.2.2.lt)))
  clear hb3
  have hV := Blk.new w3 27 #[.int .i64 0, .int .i64 0, .string ⟨#[]⟩]
  have HNN := Lib.hid (HN.out (w3.alloc (.cells #[.int .i64 0, .int .i64 0, .string ⟨#[]⟩] 27)))
  go_wp2_with fail
  refine HNN.out.mono ?_
  rintro x w4 ⟨rfl, hb4⟩
  have h34 : Below w3.heap.size w3 w4 := thn (al (Below.refl _ _) _) hb4
  have H4 := Lib.hid (And.intro (H3.out.1.thn (But.of h34)) (And.intro (H3.out.2.1.below h34) (H3.out.2.2.below h34 H3.out.2.2.lt)))
  clear hb4 hV h34 HNN
  go_wp2_with fail
  refine (HNd.out _ H4.out.2.1).mono ?_
  rintro x w5 ⟨rfl, hb5, hp5⟩
  have H5 := Lib.hid (And.intro (H4.out.1.thn hb5) (And.intro hp5 (H4.out.2.2.grown hb5 (by intro e; injection e with e; omega))))
  clear hb5 hp5
  go_wp2_with fail
  refine (HKd.out _ (HGS.out.but H5.out.1 (by omega)) H5.out.2.1).mono ?_
  rintro x w6 ⟨rfl, hb6, hp6⟩
  have H6 := Lib.hid (And.intro (H5.out.1.thn hb6) (And.intro hp6 (H5.out.2.2.grown hb6 (by intro e; injection e with e; omega))))
  clear hb6 hp6
  have hBr := H6.out.2.2
  have hBl := hBr.lt
  have f0 := hBr.frozen 0
  have d0 := hBr.cell 0
  have f1 := hBr.frozen 1
  have d1 := hBr.cell 1
  have f2 := hBr.frozen 2
  have d2 := hBr.cell 2
  have f3 := hBr.frozen 3
  have d3 := hBr.cell 3
  have f4 := hBr.frozen 4
  have d4 := hBr.cell 4
  have f5 := hBr.frozen 5
  have d5 := hBr.cell 5
  have f6 := hBr.frozen 6
  have d6 := hBr.cell 6
  have f7 := hBr.frozen 7
  have d7 := hBr.cell 7
  have f8 := hBr.frozen 8
  have d8 := hBr.cell 8
  simp only [List.getElem?_toArray, List.getElem?_cons_succ, List.getElem?_cons_zero] at d0 d1 d2 d3 d4 d5 d6 d7 d8
  have HB9 := Lib.hid (hBr.set9_ (.int .i64 3) (.int .i64 0) (.int .i64 0) (.int .i64 (k : Nat)) (.int .i64 0) (.int .i64 0) (.string ⟨#[]⟩) (.slice none 0 0) (.slice none 0 0))
  have HBt := Lib.hid (But.set9 H6.out.1 (Nat.le_refl w.heap.size) (.int .i64 3) (.int .i64 0) (.int .i64 0) (.int .i64 (k : Nat)) (.int .i64 0) (.int .i64 0) (.string ⟨#[]⟩) (.slice none 0 0) (.slice none 0 0))
  have HPt := Lib.hid (PAt.far9 H6.out.2.1 (Nat.ne_of_lt hgl) (.int .i64 3) (.int .i64 0) (.int .i64 0) (.int .i64 (k : Nat)) (.int .i64 0) (.int .i64 0) (.string ⟨#[]⟩) (.slice none 0 0) (.slice none 0 0))
  clear hBr
  go_wp2_with fail
  have k0 := HB9.out.cell 0
  have k1 := HB9.out.cell 1
  have k2 := HB9.out.cell 2
  have k3 := HB9.out.cell 3
  have k4 := HB9.out.cell 4
  have k5 := HB9.out.cell 5
  have k6 := HB9.out.cell 6
  have k7 := HB9.out.cell 7
  have k8 := HB9.out.cell 8
  simp at k0 k1 k2 k3 k4 k5 k6 k7 k8
  exact bodyPost_ret (v := .agg #[.int .i64 3, .int .i64 0, .int .i64 0, .int .i64 (k : Nat), .int .i64 0, .int .i64 0, .string ⟨#[]⟩, .slice none 0 0, .slice none 0 0]) (by simp [results, Tryz.results100, go_sem, k0, k1, k2, k3, k4, k5, k6, k7, k8]) rfl ⟨rfl, HBt.out, HPt.out⟩
set_option maxHeartbeats 4000000 in
set_option maxRecDepth 100000 in
theorem exprCol_any (n : Int) (t : List UInt8) (g : Nat) (w : World) (hn : I64 n) (h0 : 0 ≤ n) (ht : Stp t) (hB : PAt w g (36 :: (Lib.itoa n ++ t))) (hl : (36 :: (Lib.itoa n ++ t)).length ≤ 1000000) :
    Calls Tryz.prog 68 #[.pointer (some ⟨g, 0, none⟩)] w fun x w' => x = .returned (.agg #[.int .i64 1, .int .i64 n, .int .i64 0, .int .i64 0, .int .i64 0, .int .i64 0, .string ⟨#[]⟩, .slice none 0 0, .slice none 0 0]) ∧ But g w w' ∧ PAt w' g t := by
  have hgl : g < w.heap.size := Blk.lt hB
  have HE := Lib.hid (eat_hit g (36 :: (Lib.itoa n ++ t)) (Lib.itoa n ++ t) ⟨#[36]⟩ (w.alloc (.cells #[.int .i64 0, .int .i64 0, .int .i64 0, .int .i64 0, .int .i64 0, .int .i64 0, .string ⟨#[]⟩, .slice none 0 0, .slice none 0 0] 30)) (hB.below (al (Below.refl _ _) _)) rfl)
  have HN : Hid (∀ W, PAt W g (Lib.itoa n ++ t) → Calls Tryz.prog 97 #[.pointer (some ⟨g, 0, none⟩)] W fun x w' => x = .returned (.int .i64 n) ∧ But g W w' ∧ PAt w' g t) := Lib.hid fun W h => numberW_any n t g W hn h0 ht.digs h (by rw [List.length_cons] at hl; omega)
  clear hB hl ht
  go_enter Tryz.func68, Tryz.ntmps68
  go_wp2_with fail
  refine HE.out.mono ?_
  rintro x w1 ⟨rfl, hb1, hp1⟩
  have H1 := Lib.hid (And.intro ((World.grownBy_alloc w (.cells #[.int .i64 0, .int .i64 0, .int .i64 0, .int .i64 0, .int .i64 0, .int .i64 0, .string ⟨#[]⟩, .slice none 0 0, .slice none 0 0] 30) (some g)).trans hb1) (And.intro hp1 ((Blk.new w 30 #[.int .i64 0, .int .i64 0, .int .i64 0, .int .i64 0, .int .i64 0, .int .i64 0, .string ⟨#[]⟩, .slice none 0 0, .slice none 0 0]).grown hb1 (by intro e; injection e with e; omega))))
  clear hb1 hp1 HE
  go_wp2_with fail
  refine (HN.out _ H1.out.2.1).mono ?_
  rintro x w2 ⟨rfl, hb2, hp2⟩
  have H2 := Lib.hid (And.intro (But.thn H1.out.1 hb2) (And.intro hp2 (H1.out.2.2.grown hb2 (by intro e; injection e with e; omega))))
  clear hb2 hp2
  have hBr := H2.out.2.2
  have hBl := hBr.lt
  have f0 := hBr.frozen 0
  have d0 := hBr.cell 0
  have f1 := hBr.frozen 1
  have d1 := hBr.cell 1
  have f2 := hBr.frozen 2
  have d2 := hBr.cell 2
  have f3 := hBr.frozen 3
  have d3 := hBr.cell 3
  have f4 := hBr.frozen 4
  have d4 := hBr.cell 4
  have f5 := hBr.frozen 5
  have d5 := hBr.cell 5
  have f6 := hBr.frozen 6
  have d6 := hBr.cell 6
  have f7 := hBr.frozen 7
  have d7 := hBr.cell 7
  have f8 := hBr.frozen 8
  have d8 := hBr.cell 8
  simp only [List.getElem?_toArray, List.getElem?_cons_succ, List.getElem?_cons_zero] at d0 d1 d2 d3 d4 d5 d6 d7 d8
  have HB9 := Lib.hid (hBr.set9_ (.int .i64 1) (.int .i64 n) (.int .i64 0) (.int .i64 0) (.int .i64 0) (.int .i64 0) (.string ⟨#[]⟩) (.slice none 0 0) (.slice none 0 0))
  have HBt := Lib.hid (But.set9 H2.out.1 (Nat.le_refl w.heap.size) (.int .i64 1) (.int .i64 n) (.int .i64 0) (.int .i64 0) (.int .i64 0) (.int .i64 0) (.string ⟨#[]⟩) (.slice none 0 0) (.slice none 0 0))
  have HPt := Lib.hid (PAt.far9 H2.out.2.1 (Nat.ne_of_lt hgl) (.int .i64 1) (.int .i64 n) (.int .i64 0) (.int .i64 0) (.int .i64 0) (.int .i64 0) (.string ⟨#[]⟩) (.slice none 0 0) (.slice none 0 0))
  clear hBr
  go_wp2_with fail
  have k0 := HB9.out.cell 0
  have k1 := HB9.out.cell 1
  have k2 := HB9.out.cell 2
  have k3 := HB9.out.cell 3
  have k4 := HB9.out.cell 4
  have k5 := HB9.out.cell 5
  have k6 := HB9.out.cell 6
  have k7 := HB9.out.cell 7
  have k8 := HB9.out.cell 8
  simp at k0 k1 k2 k3 k4 k5 k6 k7 k8
  exact bodyPost_ret (v := .agg #[.int .i64 1, .int .i64 n, .int .i64 0, .int .i64 0, .int .i64 0, .int .i64 0, .string ⟨#[]⟩, .slice none 0 0, .slice none 0 0]) (by simp [results, Tryz.results68, go_sem, k0, k1, k2, k3, k4, k5, k6, k7, k8]) rfl ⟨rfl, HBt.out, HPt.out⟩
set_option maxHeartbeats 4000000 in
set_option maxRecDepth 100000 in
theorem exprOut_any (n m : Int) (t : List UInt8) (g : Nat) (w : World) (hn : I64 n) (h0 : 0 ≤ n) (hm : I64 m) (hm0 : 0 ≤ m) (ht : Stp t) (hB : PAt w g (94 :: (Lib.itoa n ++ 46 :: (Lib.itoa m ++ t)))) (hl : (94 :: (Lib.itoa n ++ 46 :: (Lib.itoa m ++ t))).length ≤ 1000000) :
    Calls Tryz.prog 68 #[.pointer (some ⟨g, 0, none⟩)] w fun x w' => x = .returned (.agg #[.int .i64 2, .int .i64 n, .int .i64 m, .int .i64 0, .int .i64 0, .int .i64 0, .string ⟨#[]⟩, .slice none 0 0, .slice none 0 0]) ∧ But g w w' ∧ PAt w' g t := by
  have hgl : g < w.heap.size := Blk.lt hB
  have HE0 := Lib.hid (eat_miss g (94 :: (Lib.itoa n ++ 46 :: (Lib.itoa m ++ t))) ⟨#[36]⟩ (w.alloc (.cells #[.int .i64 0, .int .i64 0, .int .i64 0, .int .i64 0, .int .i64 0, .int .i64 0, .string ⟨#[]⟩, .slice none 0 0, .slice none 0 0] 30)) (hB.below (al (Below.refl _ _) _)) (hasP_ne (by decide)))
  have HE : Hid (∀ W, PAt W g (94 :: (Lib.itoa n ++ 46 :: (Lib.itoa m ++ t))) → Calls Tryz.prog 96 #[.pointer (some ⟨g, 0, none⟩), .string ⟨#[94]⟩] W fun x w' => x = .returned (.bool true) ∧ But g W w' ∧ PAt w' g (Lib.itoa n ++ 46 :: (Lib.itoa m ++ t))) := Lib.hid fun W h => eat_hit g _ (Lib.itoa n ++ 46 :: (Lib.itoa m ++ t)) ⟨#[94]⟩ W h rfl
  have HN1 : Hid (∀ W, PAt W g (Lib.itoa n ++ 46 :: (Lib.itoa m ++ t)) → Calls Tryz.prog 97 #[.pointer (some ⟨g, 0, none⟩)] W fun x w' => x = .returned (.int .i64 n) ∧ But g W w' ∧ PAt w' g (46 :: (Lib.itoa m ++ t))) := Lib.hid fun W h => numberW_any n (46 :: (Lib.itoa m ++ t)) g W hn h0 (fun c r e => by injection e with e _; subst e; decide) h (by rw [List.length_cons] at hl; omega)
  have HNd : Hid (∀ W, PAt W g (46 :: (Lib.itoa m ++ t)) → Calls Tryz.prog 98 #[.pointer (some ⟨g, 0, none⟩), .string ⟨#[46]⟩] W fun x w' => x = .returned (.tuple #[]) ∧ But g W w' ∧ PAt w' g (Lib.itoa m ++ t)) := Lib.hid fun W h => need_hit g _ (Lib.itoa m ++ t) ⟨#[46]⟩ W h rfl
  have HN2 : Hid (∀ W, PAt W g (Lib.itoa m ++ t) → Calls Tryz.prog 97 #[.pointer (some ⟨g, 0, none⟩)] W fun x w' => x = .returned (.int .i64 m) ∧ But g W w' ∧ PAt w' g t) := Lib.hid fun W h => numberW_any m t g W hm hm0 ht.digs h (by simp only [List.length_cons, List.length_append] at hl ⊢; omega)
  clear hB hl ht
  go_enter Tryz.func68, Tryz.ntmps68
  go_wp2_with fail
  refine HE0.out.mono ?_
  rintro x w1 ⟨rfl, hb1, hp1⟩
  have H1 := Lib.hid (And.intro ((World.grownBy_alloc w (.cells #[.int .i64 0, .int .i64 0, .int .i64 0, .int .i64 0, .int .i64 0, .int .i64 0, .string ⟨#[]⟩, .slice none 0 0, .slice none 0 0] 30) (some g)).trans hb1) (And.intro hp1 ((Blk.new w 30 #[.int .i64 0, .int .i64 0, .int .i64 0, .int .i64 0, .int .i64 0, .int .i64 0, .string ⟨#[]⟩, .slice none 0 0, .slice none 0 0]).grown hb1 (by intro e; injection e with e; omega))))
  clear hb1 hp1 HE0
  go_wp2_with fail
  refine (HE.out _ H1.out.2.1).mono ?_
  rintro x w2 ⟨rfl, hb, hp⟩
  have H2 := Lib.hid (And.intro (But.thn H1.out.1 hb) (And.intro hp (H1.out.2.2.grown hb (by intro e; injection e with e; omega))))
  clear hb hp
  go_wp2_with fail
  refine (HN1.out _ H2.out.2.1).mono ?_
  rintro x w3 ⟨rfl, hb, hp⟩
  have H3 := Lib.hid (And.intro (But.thn H2.out.1 hb) (And.intro hp (H2.out.2.2.grown hb (by intro e; injection e with e; omega))))
  clear hb hp
  go_wp2_with fail
  refine (HNd.out _ H3.out.2.1).mono ?_
  rintro x w4 ⟨rfl, hb, hp⟩
  have H4 := Lib.hid (And.intro (But.thn H3.out.1 hb) (And.intro hp (H3.out.2.2.grown hb (by intro e; injection e with e; omega))))
  clear hb hp
  go_wp2_with fail
  refine (HN2.out _ H4.out.2.1).mono ?_
  rintro x w5 ⟨rfl, hb, hp⟩
  have H5 := Lib.hid (And.intro (But.thn H4.out.1 hb) (And.intro hp (H4.out.2.2.grown hb (by intro e; injection e with e; omega))))
  clear hb hp
  have hBr := H5.out.2.2
  have hBl := hBr.lt
  have f0 := hBr.frozen 0
  have d0 := hBr.cell 0
  have f1 := hBr.frozen 1
  have d1 := hBr.cell 1
  have f2 := hBr.frozen 2
  have d2 := hBr.cell 2
  have f3 := hBr.frozen 3
  have d3 := hBr.cell 3
  have f4 := hBr.frozen 4
  have d4 := hBr.cell 4
  have f5 := hBr.frozen 5
  have d5 := hBr.cell 5
  have f6 := hBr.frozen 6
  have d6 := hBr.cell 6
  have f7 := hBr.frozen 7
  have d7 := hBr.cell 7
  have f8 := hBr.frozen 8
  have d8 := hBr.cell 8
  simp only [List.getElem?_toArray, List.getElem?_cons_succ, List.getElem?_cons_zero] at d0 d1 d2 d3 d4 d5 d6 d7 d8
  have HB9 := Lib.hid (hBr.set9_ (.int .i64 2) (.int .i64 n) (.int .i64 m) (.int .i64 0) (.int .i64 0) (.int .i64 0) (.string ⟨#[]⟩) (.slice none 0 0) (.slice none 0 0))
  have HBt := Lib.hid (But.set9 H5.out.1 (Nat.le_refl w.heap.size) (.int .i64 2) (.int .i64 n) (.int .i64 m) (.int .i64 0) (.int .i64 0) (.int .i64 0) (.string ⟨#[]⟩) (.slice none 0 0) (.slice none 0 0))
  have HPt := Lib.hid (PAt.far9 H5.out.2.1 (Nat.ne_of_lt hgl) (.int .i64 2) (.int .i64 n) (.int .i64 m) (.int .i64 0) (.int .i64 0) (.int .i64 0) (.string ⟨#[]⟩) (.slice none 0 0) (.slice none 0 0))
  clear hBr
  go_wp2_with fail
  have k0 := HB9.out.cell 0
  have k1 := HB9.out.cell 1
  have k2 := HB9.out.cell 2
  have k3 := HB9.out.cell 3
  have k4 := HB9.out.cell 4
  have k5 := HB9.out.cell 5
  have k6 := HB9.out.cell 6
  have k7 := HB9.out.cell 7
  have k8 := HB9.out.cell 8
  simp at k0 k1 k2 k3 k4 k5 k6 k7 k8
  exact bodyPost_ret (v := .agg #[.int .i64 2, .int .i64 n, .int .i64 m, .int .i64 0, .int .i64 0, .int .i64 0, .string ⟨#[]⟩, .slice none 0 0, .slice none 0 0]) (by simp [results, Tryz.results68, go_sem, k0, k1, k2, k3, k4, k5, k6, k7, k8]) rfl ⟨rfl, HBt.out, HPt.out⟩
end Go.Proofs.YtdiehgfldndgbaaGreatDoor
namespace Go.Proofs.YtdiehgfldndgbaaGreatDoor
open Go.RowKit Go.Deep

theorem op_list {m : Nat} (h4 : 4 ≤ m) (h25 : m ≤ 25) : m = 4 ∨ m = 5 ∨ m = 6 ∨ m = 7 ∨ m = 8 ∨ m = 9 ∨ m = 10 ∨ m = 11 ∨ m = 12 ∨ m = 13 ∨ m = 14 ∨ m = 15 ∨ m = 16 ∨ m = 17 ∨ m = 18 ∨ m = 19 ∨ m = 20 ∨ m = 21 ∨ m = 22 ∨ m = 23 ∨ m = 24 ∨ m = 25 := by omega
theorem word_head (m : Nat) (h4 : 4 ≤ m) (h25 : m ≤ 25) : ∃ c r, wordL m = c :: r ∧ 97 ≤ c.toNat ∧ c ≠ 116 ∧ c ≠ 102 := by
  rcases op_list h4 h25 with rfl | rfl | rfl | rfl | rfl | rfl | rfl | rfl | rfl | rfl | rfl | rfl | rfl | rfl | rfl | rfl | rfl | rfl | rfl | rfl | rfl | rfl <;> exact ⟨_, _, rfl, by decide, by decide, by decide⟩
theorem word_no40 (m : Nat) (h4 : 4 ≤ m) (h25 : m ≤ 25) : 40 ∉ wordL m := by
  rcases op_list h4 h25 with rfl | rfl | rfl | rfl | rfl | rfl | rfl | rfl | rfl | rfl | rfl | rfl | rfl | rfl | rfl | rfl | rfl | rfl | rfl | rfl | rfl | rfl <;> decide
theorem null_miss (m : Nat) (r : List UInt8) (h4 : 4 ≤ m) (h25 : m ≤ 25) : Lib.hasPrefix (110 :: 117 :: r) (wordL m ++ [40]) = false := by
  rcases op_list h4 h25 with rfl | rfl | rfl | rfl | rfl | rfl | rfl | rfl | rfl | rfl | rfl | rfl | rfl | rfl | rfl | rfl | rfl | rfl | rfl | rfl | rfl | rfl <;> rfl
theorem word_num (m : Nat) (h4 : 4 ≤ m) (h25 : m ≤ 25) : (wordsT.findIdx (· == wordL m)) + 4 = m := by
  rcases op_list h4 h25 with rfl | rfl | rfl | rfl | rfl | rfl | rfl | rfl | rfl | rfl | rfl | rfl | rfl | rfl | rfl | rfl | rfl | rfl | rfl | rfl | rfl | rfl <;> decide
theorem word_pre : ∀ (a b r : List UInt8), 40 ∉ a → 40 ∉ b → Lib.hasPrefix (a ++ 40 :: r) (b ++ [40]) = true → a = b
  | [], [], _, _, _, _ => rfl
  | [], d :: b, r, _, hb, h => by
    have hd : d ≠ 40 := fun e => hb (by rw [e]; exact List.mem_cons_self ..)
    rw [List.nil_append, List.cons_append, hasP_ne hd] at h
    cases h
  | c :: a, [], r, ha, _, h => by
    have hd : (40 : UInt8) ≠ c := fun e => ha (by rw [e]; exact List.mem_cons_self ..)
    rw [List.nil_append, List.cons_append, hasP_ne hd] at h
    cases h
  | c :: a, d :: b, r, ha, hb, h => by
    by_cases e : d = c
    · subst e
      rw [word_pre a b r (fun h => ha (List.mem_cons_of_mem _ h)) (fun h => hb (List.mem_cons_of_mem _ h))]
      rw [List.cons_append, List.cons_append] at h
      unfold Lib.hasPrefix at h ⊢
      simpa [List.isPrefixOf] using h
    · rw [List.cons_append, List.cons_append, hasP_ne e] at h
      cases h
theorem op_miss (m j : Nat) (r : List UInt8) (h4 : 4 ≤ m) (h25 : m ≤ 25) (j4 : 4 ≤ j) (j25 : j ≤ 25) (hne : j ≠ m) : Lib.hasPrefix (wordL m ++ 40 :: r) (wordL j ++ [40]) = false := by
  cases h : Lib.hasPrefix (wordL m ++ 40 :: r) (wordL j ++ [40]) with
  | false => rfl
  | true =>
    have e := word_pre _ _ _ (word_no40 m h4 h25) (word_no40 j j4 j25) h
    have h1 := word_num m h4 h25
    have h2 := word_num j j4 j25
    rw [e] at h1
    omega
/-- with what a literal begins -/
def litC (c : UInt8) : Prop := c.toNat ≤ 57 ∧ c ≠ 36 ∨ c = 116 ∨ c = 102
theorem lit_head (v : V) (hv : v.ok = true) (h0 : v.k ≠ 0) : ∃ c r, strB v.k v.n v.s = c :: r ∧ litC c := by
  obtain ⟨k, n, s⟩ := v
  rcases ok_cases (k := k) (n := n) (s := s) hv with ⟨rfl, rfl, rfl⟩ | ⟨rfl, rfl⟩ | ⟨rfl, rfl, rfl⟩ | ⟨rfl, rfl, rfl⟩ | ⟨rfl, rfl, _⟩
  · exact absurd rfl h0
  · obtain ⟨c, r, h, hc⟩ := itoa_head n
    exact ⟨c, r, h, .inl ⟨by omega, fun e => by subst e; revert hc; decide⟩⟩
  · exact ⟨_, _, rfl, .inr (.inr rfl)⟩
  · exact ⟨_, _, rfl, .inr (.inl rfl)⟩
  · exact ⟨39, _, rfl, .inl ⟨by decide, by decide⟩⟩
theorem lit_miss {c : UInt8} (r : List UInt8) (hc : litC c) (m : Nat) (h4 : 4 ≤ m) (h25 : m ≤ 25) : Lib.hasPrefix (c :: r) (wordL m ++ [40]) = false := by
  obtain ⟨d, q, hd, h1, h2, h3⟩ := word_head m h4 h25
  rw [hd, List.cons_append]
  refine hasP_ne fun e => ?_
  subst e
  rcases hc with ⟨hc, _⟩ | hc | hc
  · omega
  · exact h2 hc
  · exact h3 hc
theorem lit_first {c : UInt8} (hc : litC c) : c ≠ 36 ∧ c ≠ 94 := by
  rcases hc with ⟨h, h2⟩ | rfl | rfl
  · exact ⟨h2, fun e => by subst e; revert h; decide⟩
  · exact ⟨by decide, by decide⟩
  · exact ⟨by decide, by decide⟩
theorem wordB_40 (m : Nat) : (wordB m ++ ⟨#[40]⟩ : ByteArray).data.toList = wordL m ++ [40] := by
  simp [wordB]
end Go.Proofs.YtdiehgfldndgbaaGreatDoor
namespace Go.Proofs.YtdiehgfldndgbaaGreatDoor
open Go.RowKit Go.Deep

/-- what was read, held -/
theorem exprOp_done {j g : Nat} {a : E} {es : List E} {hs : List HE} {A : Option Addr} {c : Nat} {w w3 w4 : World} {t : List UInt8} {a0 a1 a2 a3 a4 a5 a6 a7 a8 : Value} (hlt : w.heap.size < w3.heap.size) (hm : hs.map HE.e = a :: es) (hca : CArgs w3.heap.size w4 (.slice A hs.length c) hs)
    (hb : But g w (set9 w4 w.heap.size a0 a1 a2 a3 a4 a5 a6 a7 a8)) (hp : PAt (set9 w4 w.heap.size a0 a1 a2 a3 a4 a5 a6 a7 a8) g t) :
    ∃ h : HE, h.e = .mk j 0 0 0 ⟨0, 0, ⟨#[]⟩⟩ (a :: es) [] ∧ Ending.returned (.agg #[.int .i64 (j : Nat), .int .i64 0, .int .i64 0, .int .i64 0, .int .i64 0, .int .i64 0, .string ⟨#[]⟩, .slice A hs.length c, .slice none 0 0]) = .returned h.val ∧ But g w (set9 w4 w.heap.size a0 a1 a2 a3 a4 a5 a6 a7 a8) ∧ PAt (set9 w4 w.heap.size a0 a1 a2 a3 a4 a5 a6 a7 a8) g t ∧ h.ok (set9 w4 w.heap.size a0 a1 a2 a3 a4 a5 a6 a7 a8) (fun b => w.heap.size ≤ b ∧ b < (set9 w4 w.heap.size a0 a1 a2 a3 a4 a5 a6 a7 a8).heap.size) := by
  have hl : hs.length = (a :: es).length := by rw [← hm, List.length_map]
  obtain ⟨A', c', hv, hA⟩ := LOk.own (P := fun b => w3.heap.size ≤ b ∧ b < w4.heap.size) hca.1 (fun x hx => (hca.2 x hx).kept (fun _ _ => rfl) fun b hb => ⟨hb.1, hb.2.1⟩) fun g' hg' => hca.1.lt g' hg'
  injection hv with h1 h2 h3
  subst h1 h3
  refine ⟨⟨.mk j 0 0 0 ⟨0, 0, ⟨#[]⟩⟩ (a :: es) [], A, c, none, 0⟩, rfl, ?_, hb, hp, ?_, fun h0 => absurd h0 (Nat.lt_irrefl 0)⟩
  · show _ = Ending.returned ((E.mk j 0 0 0 ⟨0, 0, ⟨#[]⟩⟩ (a :: es) []).val A c none 0)
    unfold E.val
    show _ = Ending.returned (.agg #[.int .i64 (j : Nat), .int .i64 0, .int .i64 0, .int .i64 0, .int .i64 0, .int .i64 0, .string ⟨#[]⟩, .slice A (a :: es).length c, .slice none 0 0])
    rw [hl]
  · show LOk _ _ A (a :: es)
    rw [← hm]
    exact hA.kept (fun b hb => set9_far _ _ _ _ _ _ _ _ _ _ _ b (by have := hb.1; omega)) fun b hb => ⟨by have := hb.1; omega, by rw [set9_size]; exact hb.2⟩

set_option maxHeartbeats 4000000 in
set_option maxRecDepth 100000 in
theorem exprLit_any (k lk ln : Int) (ls : ByteArray) (l t : List UInt8) (g : Nat) (w : World) (hm1 : Lib.hasPrefix l [36] = false) (hm2 : Lib.hasPrefix l [94] = false) (hM : ∀ j : Nat, 4 ≤ j → j ≤ 25 → Lib.hasPrefix l (wordL j ++ [40]) = false) (hG : GE w) (hS : GS w) (hg : 9 ≤ g) (hB : PAt w g l)
    (hLit : ∀ W, GE W → GS W → PAt W g l → Calls Tryz.prog 100 #[.pointer (some ⟨g, 0, none⟩)] W fun x w' => x = .returned (.agg #[.int .i64 3, .int .i64 0, .int .i64 0, .int .i64 k, .int .i64 lk, .int .i64 ln, .string ls, .slice none 0 0, .slice none 0 0]) ∧ But g W w' ∧ PAt w' g t) :
    Calls Tryz.prog 68 #[.pointer (some ⟨g, 0, none⟩)] w fun x w' => x = .returned (.agg #[.int .i64 3, .int .i64 0, .int .i64 0, .int .i64 k, .int .i64 lk, .int .i64 ln, .string ls, .slice none 0 0, .slice none 0 0]) ∧ But g w w' ∧ PAt w' g t := by
  have hgl : g < w.heap.size := Blk.lt hB
  have hal : Below w.heap.size w (w.alloc (.cells #[.int .i64 0, .int .i64 0, .int .i64 0, .int .i64 0, .int .i64 0, .int .i64 0, .string ⟨#[]⟩, .slice none 0 0, .slice none 0 0] 30)) := al (Below.refl _ _) _
  have HG := Lib.hid (And.intro (hG.thn hal) (hS.thn hal))
  have HE1 := Lib.hid (eat_miss g l ⟨#[36]⟩ (w.alloc (.cells #[.int .i64 0, .int .i64 0, .int .i64 0, .int .i64 0, .int .i64 0, .int .i64 0, .string ⟨#[]⟩, .slice none 0 0, .slice none 0 0] 30)) (hB.below hal) hm1)
  have HM : Hid (∀ j : Nat, 4 ≤ j → j ≤ 25 → Lib.hasPrefix l (wordB j ++ ⟨#[40]⟩ : ByteArray).data.toList = false) := Lib.hid fun j h4 h25 => by rw [wordB_40]; exact hM j h4 h25
  have HLit := Lib.hid hLit
  clear hB hm1 hM hLit hG hS hal
  go_enter Tryz.func68, Tryz.ntmps68
  go_wp2_with fail
  refine HE1.out.mono ?_
  rintro x w1 ⟨rfl, hb1, hp1⟩
  have H1 := Lib.hid (And.intro hb1 hp1)
  have HE2 := Lib.hid (eat_miss g l ⟨#[94]⟩ w1 hp1 hm2)
  clear hb1 hp1 HE1 hm2
  go_wp2_with fail
  refine HE2.out.mono ?_
  rintro x w2 ⟨rfl, hb2, hp2⟩
  have H2 := Lib.hid (And.intro (But.thn H1.out.1 hb2) hp2)
  clear hb2 hp2 HE2 H1
  go_wp2_with fail
  go_loopw [4] (fun iv wr => ∃ j : Nat, 4 ≤ j ∧ j ≤ 26 ∧ iv = .int .i64 j ∧ Hid (But g (w.alloc (.cells #[.int .i64 0, .int .i64 0, .int .i64 0, .int .i64 0, .int .i64 0, .int .i64 0, .string ⟨#[]⟩, .slice none 0 0, .slice none 0 0] 30)) wr ∧ PAt wr g l)) (fun iv _ => 26 - (intOf iv).toNat)
  case atStart => exact ⟨4, Nat.le_refl _, by omega, rfl, H2⟩
  case round =>
    obtain ⟨j, hj4, hjm, rfl, HI⟩ := hrel
    have hGr := HG.out.2.but HI.out.1 (by omega)
    have hlo := hGr.lo
    by_cases hlt : j ≤ 25
    · skip
      have hj25 : j ≤ 25 := by omega
      have hj25i : (j : Int) ≤ 25 := by omega
      have hj0 : (0 : Int) ≤ (j : Int) := by omega
      have y0 := (hGr.shp j hj4 hj25).1
      have HE := Lib.hid (eat_miss g l (wordB j ++ ⟨#[40]⟩) wr HI.out.2 (HM.out j hj4 (by omega)))
      clear hGr
      have hwz : (wordB (j : Nat)).size ≤ 8 := by
        have := wordL_len (j : Int)
        show (wordL (j : Int)).toArray.size ≤ 8
        simpa using this
      generalize wordB (j : Nat) = wd at *
      go_wp2_with fail
      refine HE.out.mono ?_
      rintro x w3 ⟨rfl, hb3, hp3⟩
      have HN := Lib.hid (And.intro (But.thn HI.out.1 hb3) hp3)
      clear hb3 hp3 y0 HE
      go_wp2_with fail
      go_roundw
      case rel => exact ⟨j + 1, by omega, by omega, by go_num, HN⟩
      case measure => simp [intOf]; omega
    · have hje : j = 26 := by omega
      subst hje
      have HL2 := Lib.hid (HLit.out wr (HG.out.1.but HI.out.1 hg) hGr HI.out.2)
      clear hGr
      go_wp2_with fail
      refine HL2.out.mono ?_
      rintro x w3 ⟨rfl, hb3, hp3⟩
      have H3 := Lib.hid (And.intro ((World.grownBy_alloc w (.cells #[.int .i64 0, .int .i64 0, .int .i64 0, .int .i64 0, .int .i64 0, .int .i64 0, .string ⟨#[]⟩, .slice none 0 0, .slice none 0 0] 30) (some g)).trans (But.thn HI.out.1 hb3)) (And.intro hp3 ((Blk.new w 30 #[.int .i64 0, .int .i64 0, .int .i64 0, .int .i64 0, .int .i64 0, .int .i64 0, .string ⟨#[]⟩, .slice none 0 0, .slice none 0 0]).grown (But.thn HI.out.1 hb3) (by intro e; injection e with e; omega))))
      clear hb3 hp3 HL2
      have hBr := H3.out.2.2
      have hBl := hBr.lt
      have f0 := hBr.frozen 0
      have d0 := hBr.cell 0
      have f1 := hBr.frozen 1
      have d1 := hBr.cell 1
      have f2 := hBr.frozen 2
      have d2 := hBr.cell 2
      have f3 := hBr.frozen 3
      have d3 := hBr.cell 3
      have f4 := hBr.frozen 4
      have d4 := hBr.cell 4
      have f5 := hBr.frozen 5
      have d5 := hBr.cell 5
      have f6 := hBr.frozen 6
      have d6 := hBr.cell 6
      have f7 := hBr.frozen 7
      have d7 := hBr.cell 7
      have f8 := hBr.frozen 8
      have d8 := hBr.cell 8
      simp only [List.getElem?_toArray, List.getElem?_cons_succ, List.getElem?_cons_zero] at d0 d1 d2 d3 d4 d5 d6 d7 d8
      have HB9 := Lib.hid (hBr.set9_ (.int .i64 3) (.int .i64 0) (.int .i64 0) (.int .i64 k) (.int .i64 lk) (.int .i64 ln) (.string ls) (.slice none 0 0) (.slice none 0 0))
      have HBt := Lib.hid (But.set9 H3.out.1 (Nat.le_refl w.heap.size) (.int .i64 3) (.int .i64 0) (.int .i64 0) (.int .i64 k) (.int .i64 lk) (.int .i64 ln) (.string ls) (.slice none 0 0) (.slice none 0 0))
      have HPt := Lib.hid (PAt.far9 H3.out.2.1 (Nat.ne_of_lt hgl) (.int .i64 3) (.int .i64 0) (.int .i64 0) (.int .i64 k) (.int .i64 lk) (.int .i64 ln) (.string ls) (.slice none 0 0) (.slice none 0 0))
      clear hBr
      go_wp2_with fail
      have k0 := HB9.out.cell 0
      have k1 := HB9.out.cell 1
      have k2 := HB9.out.cell 2
      have k3 := HB9.out.cell 3
      have k4 := HB9.out.cell 4
      have k5 := HB9.out.cell 5
      have k6 := HB9.out.cell 6
      have k7 := HB9.out.cell 7
      have k8 := HB9.out.cell 8
      simp at k0 k1 k2 k3 k4 k5 k6 k7 k8
      exact bodyPost_ret (v := .agg #[.int .i64 3, .int .i64 0, .int .i64 0, .int .i64 k, .int .i64 lk, .int .i64 ln, .string ls, .slice none 0 0, .slice none 0 0]) (by simp [results, Tryz.results68, go_sem, k0, k1, k2, k3, k4, k5, k6, k7, k8]) rfl ⟨rfl, HBt.out, HPt.out⟩
set_option maxHeartbeats 4000000 in
set_option maxRecDepth 100000 in
theorem exprOp_any (m : Nat) (a : E) (es : List E) (t : List UInt8) (g : Nat) (w : World) (h4 : 4 ≤ m) (h25 : m ≤ 25) (hG : GE w) (hS : GS w) (hg : 9 ≤ g) (hB : PAt w g (wordL m ++ 40 :: (strE a ++ tailS es t))) (hl : es.length ≤ 100000) (hn : (strE a ++ tailS es t).length ≤ 1000000)
    (hcall : ∀ x ∈ a :: es, ∀ r w1, Stp r → But g (w.alloc (.cells #[.int .i64 0, .int .i64 0, .int .i64 0, .int .i64 0, .int .i64 0, .int .i64 0, .string ⟨#[]⟩, .slice none 0 0, .slice none 0 0] 30)) w1 → PAt w1 g (strE x ++ r) → (strE x ++ r).length ≤ 1000000 → ItemAt 68 g x r w1) :
    Calls Tryz.prog 68 #[.pointer (some ⟨g, 0, none⟩)] w fun x w' => ∃ h : HE, h.e = .mk m 0 0 0 ⟨0, 0, ⟨#[]⟩⟩ (a :: es) [] ∧ x = .returned h.val ∧ But g w w' ∧ PAt w' g t ∧ h.ok w' (fun b => w.heap.size ≤ b ∧ b < w'.heap.size) := by
  have hgl : g < w.heap.size := Blk.lt hB
  have hal : Below w.heap.size w (w.alloc (.cells #[.int .i64 0, .int .i64 0, .int .i64 0, .int .i64 0, .int .i64 0, .int .i64 0, .string ⟨#[]⟩, .slice none 0 0, .slice none 0 0] 30)) := al (Below.refl _ _) _
  have HG := Lib.hid (And.intro (hG.thn hal) (hS.thn hal))
  obtain ⟨l, hl0⟩ : ∃ l, l = wordL m ++ 40 :: (strE a ++ tailS es t) := ⟨_, rfl⟩
  obtain ⟨c, q, hcq, hc1, _, _⟩ := word_head m h4 h25
  have hm1 : Lib.hasPrefix l [36] = false := by rw [hl0, hcq, List.cons_append]; exact hasP_ne fun e => by subst e; revert hc1; decide
  have hm2 : Lib.hasPrefix l [94] = false := by rw [hl0, hcq, List.cons_append]; exact hasP_ne fun e => by subst e; revert hc1; decide
  have HM : Hid (∀ j : Nat, 4 ≤ j → j < m → Lib.hasPrefix l (wordB j ++ ⟨#[40]⟩ : ByteArray).data.toList = false) := Lib.hid fun j j4 jm => by rw [wordB_40, hl0]; exact op_miss m j _ h4 h25 j4 (by omega) (by omega)
  rw [← hl0] at hB
  have HE1 := Lib.hid (eat_miss g l ⟨#[36]⟩ (w.alloc (.cells #[.int .i64 0, .int .i64 0, .int .i64 0, .int .i64 0, .int .i64 0, .int .i64 0, .string ⟨#[]⟩, .slice none 0 0, .slice none 0 0] 30)) (hB.below hal) hm1)
  have HC := Lib.hid hcall
  have HL0 : Hid (l = (wordB m ++ ⟨#[40]⟩ : ByteArray).data.toList ++ (strE a ++ tailS es t)) := Lib.hid (by rw [wordB_40, hl0]; simp)
  have hmf : ∀ (fn : Fn) (first cap : Array Value) (w : World), (Instr.makeFunc fn first cap).run Tryz.prog w = .ok (.func fn first cap) w := fun _ _ _ _ => rfl
  clear hB hm1 hG hS hal hcall hl0 hcq hc1
  go_enter Tryz.func68, Tryz.ntmps68
  go_wp2_with fail
  refine HE1.out.mono ?_
  rintro x w1 ⟨rfl, hb1, hp1⟩
  have H1 := Lib.hid (And.intro hb1 hp1)
  have HE2 := Lib.hid (eat_miss g l ⟨#[94]⟩ w1 hp1 hm2)
  clear hb1 hp1 HE1 hm2
  go_wp2_with fail
  refine HE2.out.mono ?_
  rintro x w2 ⟨rfl, hb2, hp2⟩
  have H2 := Lib.hid (And.intro (But.thn H1.out.1 hb2) hp2)
  clear hb2 hp2 HE2 H1
  go_wp2_with fail
  go_loopw [4] (fun iv wr => ∃ j : Nat, 4 ≤ j ∧ j ≤ m ∧ iv = .int .i64 j ∧ Hid (But g (w.alloc (.cells #[.int .i64 0, .int .i64 0, .int .i64 0, .int .i64 0, .int .i64 0, .int .i64 0, .string ⟨#[]⟩, .slice none 0 0, .slice none 0 0] 30)) wr ∧ PAt wr g l)) (fun iv _ => 26 - (intOf iv).toNat)
  case atStart => exact ⟨4, Nat.le_refl _, by omega, rfl, H2⟩
  case round =>
    obtain ⟨j, hj4, hjm, rfl, HI⟩ := hrel
    have hGr := HG.out.2.but HI.out.1 (by omega)
    have hlo := hGr.lo
    by_cases hlt : j < m
    · skip
      have hj25 : j ≤ 25 := by omega
      have hj25i : (j : Int) ≤ 25 := by omega
      have hj0 : (0 : Int) ≤ (j : Int) := by omega
      have y0 := (hGr.shp j hj4 hj25).1
      have HE := Lib.hid (eat_miss g l (wordB j ++ ⟨#[40]⟩) wr HI.out.2 (HM.out j hj4 (by omega)))
      clear hGr
      have hwz : (wordB (j : Nat)).size ≤ 8 := by
        have := wordL_len (j : Int)
        show (wordL (j : Int)).toArray.size ≤ 8
        simpa using this
      generalize wordB (j : Nat) = wd at *
      go_wp2_with fail
      refine HE.out.mono ?_
      rintro x w3 ⟨rfl, hb3, hp3⟩
      have HN := Lib.hid (And.intro (But.thn HI.out.1 hb3) hp3)
      clear hb3 hp3 y0 HE
      go_wp2_with fail
      go_roundw
      case rel => exact ⟨j + 1, by omega, by omega, by go_num, HN⟩
      case measure => simp [intOf]; omega
    · have hje : j = m := by omega
      subst hje
      have hj25i : (j : Int) ≤ 25 := by omega
      have hj0 : (0 : Int) ≤ (j : Int) := by omega
      have y0 := (hGr.shp j hj4 h25).1
      have HE := Lib.hid (eat_hit g l (strE a ++ tailS es t) (wordB j ++ ⟨#[40]⟩) wr HI.out.2 HL0.out)
      clear hGr
      have hwz : (wordB (j : Nat)).size ≤ 8 := by
        have := wordL_len (j : Int)
        show (wordL (j : Int)).toArray.size ≤ 8
        simpa using this
      generalize wordB (j : Nat) = wd at *
      go_wp2_with fail
      refine HE.out.mono ?_
      rintro x w3 ⟨rfl, hb3, hp3⟩
      have H3 := Lib.hid (And.intro (But.thn HI.out.1 hb3) hp3)
      have HLs := Lib.hid (list_any 68 a es t g w3 hp3 hl hn (enters_of Tryz.func68 (by kernel_rfl) rfl) fun x hx r w1 hr hbw hpw hln => HC.out x hx r w1 hr (But.thn H3.out.1 hbw) hpw hln)
      clear hb3 hp3 y0 HE
      go_wp2_with fail
      refine HLs.out.mono ?_
      rintro x w4 ⟨v, hs, rfl, hme, hca, hb4, hp4⟩
      have hs3 := H3.out.1.size
      have hlt2 : w.heap.size < w3.heap.size := by simp at hs3; omega
      have H4 := Lib.hid (And.intro ((World.grownBy_alloc w (.cells #[.int .i64 0, .int .i64 0, .int .i64 0, .int .i64 0, .int .i64 0, .int .i64 0, .string ⟨#[]⟩, .slice none 0 0, .slice none 0 0] 30) (some g)).trans (But.thn H3.out.1 hb4)) (And.intro hp4 ((Blk.new w 30 #[.int .i64 0, .int .i64 0, .int .i64 0, .int .i64 0, .int .i64 0, .int .i64 0, .string ⟨#[]⟩, .slice none 0 0, .slice none 0 0]).grown (But.thn H3.out.1 hb4) (by intro e; injection e with e; omega))))
      have HA := Lib.hid (And.intro hme hca)
      obtain ⟨A, c, rfl⟩ := own_slc hca.1
      clear hb4 hp4 HLs hme hca
      have hBr := H4.out.2.2
      have hBl := hBr.lt
      have f0 := hBr.frozen 0
      have d0 := hBr.cell 0
      have f1 := hBr.frozen 1
      have d1 := hBr.cell 1
      have f2 := hBr.frozen 2
      have d2 := hBr.cell 2
      have f3 := hBr.frozen 3
      have d3 := hBr.cell 3
      have f4 := hBr.frozen 4
      have d4 := hBr.cell 4
      have f5 := hBr.frozen 5
      have d5 := hBr.cell 5
      have f6 := hBr.frozen 6
      have d6 := hBr.cell 6
      have f7 := hBr.frozen 7
      have d7 := hBr.cell 7
      have f8 := hBr.frozen 8
      have d8 := hBr.cell 8
      simp only [List.getElem?_toArray, List.getElem?_cons_succ, List.getElem?_cons_zero] at d0 d1 d2 d3 d4 d5 d6 d7 d8
      have HB9 := Lib.hid (hBr.set9_ (.int .i64 (j : Nat)) (.int .i64 0) (.int .i64 0) (.int .i64 0) (.int .i64 0) (.int .i64 0) (.string ⟨#[]⟩) (.slice A hs.length c) (.slice none 0 0))
      have HBt := Lib.hid (But.set9 H4.out.1 (Nat.le_refl w.heap.size) (.int .i64 (j : Nat)) (.int .i64 0) (.int .i64 0) (.int .i64 0) (.int .i64 0) (.int .i64 0) (.string ⟨#[]⟩) (.slice A hs.length c) (.slice none 0 0))
      have HPt := Lib.hid (PAt.far9 H4.out.2.1 (Nat.ne_of_lt hgl) (.int .i64 (j : Nat)) (.int .i64 0) (.int .i64 0) (.int .i64 0) (.int .i64 0) (.int .i64 0) (.string ⟨#[]⟩) (.slice A hs.length c) (.slice none 0 0))
      clear hBr
      go_wp2_with fail
      have k0 := HB9.out.cell 0
      have k1 := HB9.out.cell 1
      have k2 := HB9.out.cell 2
      have k3 := HB9.out.cell 3
      have k4 := HB9.out.cell 4
      have k5 := HB9.out.cell 5
      have k6 := HB9.out.cell 6
      have k7 := HB9.out.cell 7
      have k8 := HB9.out.cell 8
      simp at k0 k1 k2 k3 k4 k5 k6 k7 k8
      exact bodyPost_ret (v := .agg #[.int .i64 (j : Nat), .int .i64 0, .int .i64 0, .int .i64 0, .int .i64 0, .int .i64 0, .string ⟨#[]⟩, .slice A hs.length c, .slice none 0 0]) (by simp [results, Tryz.results68, go_sem, k0, k1, k2, k3, k4, k5, k6, k7, k8]) rfl (exprOp_done hlt2 HA.out.1 HA.out.2 HBt.out HPt.out)
end Go.Proofs.YtdiehgfldndgbaaGreatDoor
namespace Go.Proofs.YtdiehgfldndgbaaGreatDoor
open Go.RowKit Go.Deep

theorem isZ_eq {v : V} (hv : v.isZ = true) : v = ⟨0, 0, ⟨#[]⟩⟩ := by
  obtain ⟨k, n, s⟩ := v
  simp [V.isZ] at hv
  obtain ⟨⟨rfl, rfl⟩, h⟩ := hv
  rw [show s = ⟨#[]⟩ from ByteArray.ext h]
/-- a node, spelt out -/
theorem node_canon {e : E} (h : e.node = true) : (∃ n, e = .mk 1 n 0 0 ⟨0, 0, ⟨#[]⟩⟩ [] [] ∧ 0 ≤ n) ∨ (∃ n m, e = .mk 2 n m 0 ⟨0, 0, ⟨#[]⟩⟩ [] [] ∧ 1 ≤ n ∧ 0 ≤ m) ∨
    (∃ k : Nat, e = .mk 3 0 0 k ⟨0, 0, ⟨#[]⟩⟩ [] [] ∧ 1 ≤ k ∧ k ≤ 3) ∨ (∃ v : V, e = .mk 3 0 0 v.k v [] [] ∧ v.ok = true ∧ v.k ≠ 0) ∨
    (∃ (j : Nat) (a : E) (l : List E), e = .mk j 0 0 0 ⟨0, 0, ⟨#[]⟩⟩ (a :: l) [] ∧ 4 ≤ j ∧ j ≤ 25 ∧ l.length ≤ 16) := by
  have hc := node_cases h
  obtain ⟨op, n, m, k, v, args, rels⟩ := e
  obtain ⟨hr, hc⟩ := hc
  change rels = [] at hr
  subst hr
  have hb : nodeB op n m k v args.length 0 = true := h
  clear h
  unfold nodeB at hb
  simp only [E.op, E.n, E.m, E.kind, E.lit, E.args] at hc
  rcases hc with ⟨rfl, h0, rfl⟩ | ⟨rfl, h1, h0, rfl⟩ | ⟨rfl, hk, hv, hl, rfl⟩ | ⟨h4, h25, hm⟩
  · rw [if_neg (by decide)] at hb
    simp only [Bool.and_eq_true, beq_iff_eq] at hb
    obtain ⟨h1, ⟨⟨hk, hz⟩, _⟩, _⟩ := hb
    simp only [if_true] at h1
    simp only [Bool.and_eq_true, beq_iff_eq] at h1
    rw [isZ_eq hz, hk, h1.2]
    exact .inl ⟨n, rfl, h0⟩
  · rw [if_neg (by decide)] at hb
    simp only [Bool.and_eq_true, beq_iff_eq] at hb
    obtain ⟨_, ⟨⟨hk, hz⟩, _⟩, _⟩ := hb
    rw [isZ_eq hz, hk]
    exact .inr (.inl ⟨n, m, rfl, h1, h0⟩)
  · rw [if_pos (show (3 : Int) = 3 from rfl)] at hb
    simp only [Bool.and_eq_true, beq_iff_eq] at hb
    obtain ⟨⟨⟨⟨⟨⟨hn, hm⟩, _⟩, _⟩, _⟩, _⟩, _⟩ := hb
    subst hn hm
    by_cases hz : v.k = 0
    · have hzz : v = ⟨0, 0, ⟨#[]⟩⟩ := by
        obtain ⟨vk, vn, vs⟩ := v
        change vk = 0 at hz
        subst hz
        unfold okVal at hv
        rw [if_pos rfl] at hv
        simp only [Bool.and_eq_true, beq_iff_eq, List.isEmpty_iff] at hv
        obtain ⟨hv1, hv2⟩ := hv
        change vn = 0 at hv1
        subst hv1
        congr 1
        apply ByteArray.ext; apply Array.ext'; simpa using hv2
      subst hzz
      refine .inr (.inr (.inl ⟨k.toNat, ?_, by omega, by omega⟩))
      rw [show ((k.toNat : Nat) : Int) = k by omega]
    · refine .inr (.inr (.inr (.inl ⟨v, ?_, hv, hz⟩)))
      have : v.k = k := by
        rcases hl with h | h
        · exact absurd h hz
        · exact h
      rw [this]
  · rw [if_neg (by omega)] at hb
    simp only [Bool.and_eq_true, beq_iff_eq] at hb
    obtain ⟨h1, ⟨⟨hk, hz⟩, _⟩, _⟩ := hb
    rw [if_neg (by omega), if_neg (by omega)] at h1
    simp only [Bool.and_eq_true, beq_iff_eq] at h1
    have hme := many_le hm
    cases args with
    | nil => simp at hme
    | cons a l =>
      refine .inr (.inr (.inr (.inr ⟨op.toNat, a, l, ?_, by omega, by omega, by simp at hme; omega⟩)))
      rw [isZ_eq hz, hk, h1.1, h1.2, show ((op.toNat : Nat) : Int) = op by omega]
theorem leaf_ok {w : World} {P : Nat → Prop} {op n m k : Int} {v : V} : HE.ok w P ⟨.mk op n m k v [] [], none, 0, none, 0⟩ := ⟨LOk.nil_, fun h0 => absurd h0 (Nat.lt_irrefl 0)⟩
set_option maxHeartbeats 1000000 in
theorem exprW_any : ∀ (k q : Nat) (e : E) (t : List UInt8) (g : Nat) (w : World), nodesE e < k → shapedE q e = true → EIn e → Stp t → GE w → GS w → 9 ≤ g → PAt w g (strE e ++ t) → (strE e ++ t).length ≤ 1000000 → ItemAt 68 g e t w := by
  intro k
  induction k with
  | zero => intro q e t g w h; exact absurd h (Nat.not_lt_zero _)
  | succ k ih =>
    intro q e t g w hk hsh hI ht hG hS hg hB hn
    obtain ⟨q, rfl⟩ : ∃ q', q = q' + 1 := by
      cases q with
      | zero => rw [shapedE_zero] at hsh; cases hsh
      | succ q => exact ⟨q, rfl⟩
    rw [shapedE_succ, Bool.and_eq_true] at hsh
    have hi := hI.nums
    rcases node_canon hsh.1 with ⟨n, rfl, h0⟩ | ⟨n, m, rfl, h1, h0⟩ | ⟨kd, rfl, h1, h3⟩ | ⟨v, rfl, hv, h0⟩ | ⟨j, a, l, rfl, h4, h25, hl⟩
    · have es : strE (.mk 1 n 0 0 ⟨0, 0, ⟨#[]⟩⟩ [] []) ++ t = 36 :: (Lib.itoa n ++ t) := by rw [strE_of]; rfl
      rw [es] at hB hn
      exact (exprCol_any n t g w hi.2.1 h0 ht hB hn).mono fun x w' ⟨hx, hb, hp⟩ => ⟨⟨.mk 1 n 0 0 ⟨0, 0, ⟨#[]⟩⟩ [] [], none, 0, none, 0⟩, rfl, hx, hb, hp, leaf_ok⟩
    · have es : strE (.mk 2 n m 0 ⟨0, 0, ⟨#[]⟩⟩ [] []) ++ t = 94 :: (Lib.itoa n ++ 46 :: (Lib.itoa m ++ t)) := by rw [strE_of]; simp [leafB, E.op, E.n, E.m]
      rw [es] at hB hn
      exact (exprOut_any n m t g w hi.2.1 (by omega) hi.2.2.1 h0 ht hB hn).mono fun x w' ⟨hx, hb, hp⟩ => ⟨⟨.mk 2 n m 0 ⟨0, 0, ⟨#[]⟩⟩ [] [], none, 0, none, 0⟩, rfl, hx, hb, hp, leaf_ok⟩
    · have es : strE (.mk 3 0 0 kd ⟨0, 0, ⟨#[]⟩⟩ [] []) ++ t = [110, 117, 108, 108, 58] ++ ((kwB kd).data.toList ++ t) := by rw [strE_of]; simp [leafB, E.op, E.kind, E.lit]
      rw [es] at hB hn
      exact (exprLit_any kd 0 0 ⟨#[]⟩ _ t g w (hasP_ne (by decide)) (hasP_ne (by decide)) (fun j h4 h25 => null_miss j _ h4 h25) hG hS hg hB fun W hGW hSW hBW => parseNull_any kd t g W h1 h3 hGW hSW hg hBW hn).mono fun x w' ⟨hx, hb, hp⟩ => ⟨⟨.mk 3 0 0 kd ⟨0, 0, ⟨#[]⟩⟩ [] [], none, 0, none, 0⟩, rfl, hx, hb, hp, leaf_ok⟩
    · have es : strE (.mk 3 0 0 v.k v [] []) ++ t = strB v.k v.n v.s ++ t := by
        rw [strE_of]
        show (if (3 : Int) < 4 then leafB 3 0 0 v.k v else _) ++ t = _
        rw [if_pos (by decide)]
        unfold leafB
        rw [if_neg (by decide), if_neg (by decide), if_neg h0]
      rw [es] at hB hn
      obtain ⟨c, r, hcr, hc⟩ := lit_head v hv h0
      have hf := lit_first hc
      exact (exprLit_any v.k v.k v.n v.s _ t g w (by rw [hcr]; exact hasP_ne fun e => hf.1 e.symm) (by rw [hcr]; exact hasP_ne fun e => hf.2 e.symm) (fun j h4 h25 => by rw [hcr]; exact lit_miss _ hc j h4 h25) hG hS hg hB fun W hGW hSW hBW => parseLit_any v t g W hv hi.2.2.2.2.2.1 h0 ht.stops hGW hg hBW hn).mono fun x w' ⟨hx, hb, hp⟩ => ⟨⟨.mk 3 0 0 v.k v [] [], none, 0, none, 0⟩, rfl, hx, hb, hp, leaf_ok⟩
    · have es : strE (.mk j 0 0 0 ⟨0, 0, ⟨#[]⟩⟩ (a :: l) []) ++ t = wordL j ++ 40 :: (strE a ++ tailS l t) := by
        rw [strE_of, if_neg (by show ¬ ((j : Nat) : Int) < 4; omega), ← tail_join]
        show (wordL j ++ 40 :: (joinS ((a :: l).map strE) ++ [41])) ++ t = _
        simp
      rw [es] at hB hn
      have hnd := nodesE_args (.mk j 0 0 0 ⟨0, 0, ⟨#[]⟩⟩ (a :: l) [])
      change nodesE (.mk j 0 0 0 ⟨0, 0, ⟨#[]⟩⟩ (a :: l) []) = 1 + nodesL (a :: l) at hnd
      exact exprOp_any j a l t g w h4 h25 hG hS hg hB (by omega) (by simp only [List.length_append, List.length_cons] at hn ⊢; omega) fun x hx r w1 hr hb hp hln =>
        ih q x r g w1 (by have := nodesL_mem hx; omega) (shapedL_mem hsh.2 x hx) (LIn.mem (EIn.args hI) x hx) hr ((hG.thn (al (Below.refl _ _) _)).but hb hg) ((hS.thn (al (Below.refl _ _) _)).but hb (by omega)) hg hp hln
end Go.Proofs.YtdiehgfldndgbaaGreatDoor
namespace Go.Proofs.YtdiehgfldndgbaaGreatDoor
open Go.RowKit Go.Deep

mutual
theorem fitX_of : ∀ e : E, EIn e → nodesE e ≤ 1000000 → fitX e
  | .mk op n m k lit args rels, h, hn => by
    rw [EIn] at h
    have h1 := nodesE_args (.mk op n m k lit args rels)
    change nodesE (.mk op n m k lit args rels) = 1 + nodesL args at h1
    have h2 := nodesL_len args
    rw [fitX]
    exact ⟨h.2.2.2.2.2.2.1, by omega, fitXL_of args h.2.2.2.2.2.2.2.2.2.2 (by omega)⟩
theorem fitXL_of : ∀ l : List E, LIn l → nodesL l ≤ 1000000 → fitXL l
  | [], _, _ => by rw [fitXL]; trivial
  | e :: l, h, hn => by
    rw [LIn] at h
    rw [nodesL] at hn
    rw [fitXL]
    exact ⟨fitX_of e h.1 (by omega), fitXL_of l h.2 (by omega)⟩
end
theorem st9' {w : World} {B g : Nat} (hg : B ≤ g) (a0 a1 a2 a3 a4 a5 a6 a7 a8 : Value) : Below B w (set9 w g a0 a1 a2 a3 a4 a5 a6 a7 a8) :=
  (((((((((Below.refl B w).setCell hg _).setCell hg _).setCell hg _).setCell hg _).setCell hg _).setCell hg _).setCell hg _).setCell hg _).setCell hg _
theorem EHas.of {w : World} {P : Nat → Prop} {e : E} {A R : Option Addr} {c d : Nat} (h : HE.ok w P ⟨e, A, c, R, d⟩) (hP : ∀ b, P b → b < w.heap.size) (hI : EIn e) (hn : nodesE e < 1000000) : EHas w e A R :=
  ⟨hn, fitX_of e hI (by omega), h.1.kept (fun _ _ => rfl) hP, h.2.kept (fun _ _ => rfl) hP⟩
theorem catchP_idle (p q : Addr) (w : World) :
    CallsD Tryz.prog 67 #[.pointer (some p), .pointer (some q)] .returning w fun e u' w' => e = .returned (.tuple #[]) ∧ u' = .returning ∧ w' = w := by
  refine callsD_of_wpS Tryz.func67 rfl fun c₀ cs hu => ?_
  apply wpS_seq
  apply wpS_region
  simp [wpOpsS, go_sem, recoverD, hu, Tryz.ntmps67, Exit.thenS]
  refine wpS_cond (t := false) (by simp [Act.eval, Array.replicate]) ?_
  simp only [Bool.false_eq_true, if_false]
  refine wpS_of_wp (wp_skip ?_)
  cases c₀
  simp_all [bodyPostS, results, Tryz.results67]
set_option maxHeartbeats 8000000 in
set_option maxRecDepth 100000 in
theorem ParseE_yes (e : E) (w : World) (hG : GE w) (hS : GS w) (hI : EIn e) (hf : formE e = true) (hl : (strE e).length ≤ 20000) :
    Calls Tryz.prog 27 #[.string ⟨(strE e).toArray⟩] w fun x w' => ∃ h : HE, h.e = e ∧ x = .returned (.tuple #[h.val, .int .i64 0]) ∧ Below w.heap.size w w' ∧ h.ok w' (fun b => w.heap.size ≤ b ∧ b < w'.heap.size) := by
  have hff := formE_iff.1 hf
  have hb0 : Below w.heap.size w (((w.alloc (.cells #[.int .i64 0, .int .i64 0, .int .i64 0, .int .i64 0, .int .i64 0, .int .i64 0, .string ⟨#[]⟩, .slice none 0 0, .slice none 0 0] 30)).alloc (.cells #[.int .i64 0] 31)).alloc (.cells #[.string ⟨(strE e).toArray⟩] 107)) := al (al (al (Below.refl _ _) _) _) _
  have hs3 : (((w.alloc (.cells #[.int .i64 0, .int .i64 0, .int .i64 0, .int .i64 0, .int .i64 0, .int .i64 0, .string ⟨#[]⟩, .slice none 0 0, .slice none 0 0] 30)).alloc (.cells #[.int .i64 0] 31)).alloc (.cells #[.string ⟨(strE e).toArray⟩] 107)).heap.size = w.heap.size + 1 + 1 + 1 := by simp
  have hgb := hG.g.big
  have HX := Lib.hid (exprW_any 1000000 24 e [] (w.heap.size + 1 + 1) (((w.alloc (.cells #[.int .i64 0, .int .i64 0, .int .i64 0, .int .i64 0, .int .i64 0, .int .i64 0, .string ⟨#[]⟩, .slice none 0 0, .slice none 0 0] 30)).alloc (.cells #[.int .i64 0] 31)).alloc (.cells #[.string ⟨(strE e).toArray⟩] 107)) (by omega) hff.1 hI (fun c r h => by cases h) (hG.thn hb0) (hS.thn hb0) (by omega) (by rw [List.append_nil]; exact Blk.new' (by simp)) (by rw [List.append_nil]; omega))
  have HB0 : Hid (Blk (((w.alloc (.cells #[.int .i64 0, .int .i64 0, .int .i64 0, .int .i64 0, .int .i64 0, .int .i64 0, .string ⟨#[]⟩, .slice none 0 0, .slice none 0 0] 30)).alloc (.cells #[.int .i64 0] 31)).alloc (.cells #[.string ⟨(strE e).toArray⟩] 107)) w.heap.size 30 #[.int .i64 0, .int .i64 0, .int .i64 0, .int .i64 0, .int .i64 0, .int .i64 0, .string ⟨#[]⟩, .slice none 0 0, .slice none 0 0] ∧ Blk (((w.alloc (.cells #[.int .i64 0, .int .i64 0, .int .i64 0, .int .i64 0, .int .i64 0, .int .i64 0, .string ⟨#[]⟩, .slice none 0 0, .slice none 0 0] 30)).alloc (.cells #[.int .i64 0] 31)).alloc (.cells #[.string ⟨(strE e).toArray⟩] 107)) (w.heap.size + 1) 31 #[.int .i64 0]) := Lib.hid ⟨((Blk.new w _ _).alloc _).alloc _, (Blk.new' (by simp)).alloc _⟩
  obtain ⟨s, hs⟩ : ∃ s : ByteArray, s = ⟨(strE e).toArray⟩ := ⟨_, rfl⟩
  have hsz : s.size ≤ 20000 := by rw [hs]; show (strE e).toArray.size ≤ _; simpa using hl
  have hq1 : strS e = s := by unfold strS; rw [if_pos ⟨hf, hl⟩, hs]
  have hq2 : strF e = 0 := by unfold strF; rw [if_pos hf, if_pos hl]
  have HSt : Hid (∀ (A R : Option Addr) (c d : Nat) (W : World), GE W → GS W → EHas W e A R → Calls Tryz.prog 32 #[e.val A c R d] W fun x w' => x = .returned (.tuple #[.string s, .int .i64 0]) ∧ Below W.heap.size W w') := Lib.hid fun A R c d W h1 h2 h3 => by
    have h := StringP_any e A R c d W ⟨h1.g, h2⟩ h3 hI
    rw [hq1, hq2] at h
    exact h
  have HG := Lib.hid (And.intro (hG.thn hb0) (And.intro (hS.thn hb0) (And.intro hb0 (And.intro hI (show nodesE e < 1000000 by omega)))))
  rw [← hs] at HX HB0 HG hs3 ⊢
  have hsi : ¬ ((20000 : Int) < (s.size : Int)) := by omega
  have hmf : ∀ (fn : Fn) (first cap : Array Value) (w : World), (Instr.makeFunc fn first cap).run Tryz.prog w = .ok (.func fn first cap) w := fun _ _ _ _ => rfl
  clear hG hS hI hf hff hb0 hs hl hq1 hq2
  go_enter_defers Tryz.func27, Tryz.ntmps27
  go_wp2_with fail
  refine HX.out.mono ?_
  rintro x w4 ⟨⟨e', A, c, R, d⟩, he, rfl, hb4, hp4, hok⟩
  change e' = e at he
  subst he
  have hs4 := hb4.size
  have h9 := hgb
  have H4 : Hid (Below w.heap.size w w4 ∧ (GE w4 ∧ GS w4) ∧ Blk w4 w.heap.size 30 #[.int .i64 0, .int .i64 0, .int .i64 0, .int .i64 0, .int .i64 0, .int .i64 0, .string ⟨#[]⟩, .slice none 0 0, .slice none 0 0] ∧ Blk w4 (w.heap.size + 1) 31 #[.int .i64 0] ∧ HE.ok w4 (fun b => w.heap.size + 1 + 1 + 1 ≤ b ∧ b < (w4).heap.size) ⟨e', A, c, R, d⟩) := Lib.hid ⟨HG.out.2.2.1.trans (hb4.low (by omega) (by omega)), ⟨HG.out.1.but hb4 (by omega), HG.out.2.1.but hb4 (by omega)⟩, HB0.out.1.grown hb4 (by intro e; injection e with e; omega), HB0.out.2.grown hb4 (by intro e; injection e with e; omega), hok.kept (fun _ _ => rfl) fun b hb => ⟨by have := hb.1; omega, hb.2⟩⟩
  have hlt4 := H4.out.2.2.1.lt
  have hlt4b := H4.out.2.2.2.1.lt
  have H9 := Lib.hid (And.intro h9 (And.intro hlt4 hlt4b))
  have hq := H4.out.2.2.1
  have fd0 := hq.frozen 0
  have d0 := hq.cell 0
  have fd1 := hq.frozen 1
  have d1 := hq.cell 1
  have fd2 := hq.frozen 2
  have d2 := hq.cell 2
  have fd3 := hq.frozen 3
  have d3 := hq.cell 3
  have fd4 := hq.frozen 4
  have d4 := hq.cell 4
  have fd5 := hq.frozen 5
  have d5 := hq.cell 5
  have fd6 := hq.frozen 6
  have d6 := hq.cell 6
  have fd7 := hq.frozen 7
  have d7 := hq.cell 7
  have fd8 := hq.frozen 8
  have d8 := hq.cell 8
  simp only [List.getElem?_toArray, List.getElem?_cons_succ, List.getElem?_cons_zero] at d0 d1 d2 d3 d4 d5 d6 d7 d8
  have H5 : Hid (Below w.heap.size w (set9 w4 w.heap.size (.int .i64 e'.op) (.int .i64 e'.n) (.int .i64 e'.m) (.int .i64 e'.kind) (.int .i64 e'.lit.k) (.int .i64 e'.lit.n) (.string e'.lit.s) (.slice A e'.args.length c) (.slice R e'.rels.length d)) ∧ (GE (set9 w4 w.heap.size (.int .i64 e'.op) (.int .i64 e'.n) (.int .i64 e'.m) (.int .i64 e'.kind) (.int .i64 e'.lit.k) (.int .i64 e'.lit.n) (.string e'.lit.s) (.slice A e'.args.length c) (.slice R e'.rels.length d)) ∧ GS (set9 w4 w.heap.size (.int .i64 e'.op) (.int .i64 e'.n) (.int .i64 e'.m) (.int .i64 e'.kind) (.int .i64 e'.lit.k) (.int .i64 e'.lit.n) (.string e'.lit.s) (.slice A e'.args.length c) (.slice R e'.rels.length d))) ∧ Blk (set9 w4 w.heap.size (.int .i64 e'.op) (.int .i64 e'.n) (.int .i64 e'.m) (.int .i64 e'.kind) (.int .i64 e'.lit.k) (.int .i64 e'.lit.n) (.string e'.lit.s) (.slice A e'.args.length c) (.slice R e'.rels.length d)) w.heap.size 30 #[.int .i64 e'.op, .int .i64 e'.n, .int .i64 e'.m, .int .i64 e'.kind, .int .i64 e'.lit.k, .int .i64 e'.lit.n, .string e'.lit.s, .slice A e'.args.length c, .slice R e'.rels.length d] ∧ Blk (set9 w4 w.heap.size (.int .i64 e'.op) (.int .i64 e'.n) (.int .i64 e'.m) (.int .i64 e'.kind) (.int .i64 e'.lit.k) (.int .i64 e'.lit.n) (.string e'.lit.s) (.slice A e'.args.length c) (.slice R e'.rels.length d)) (w.heap.size + 1) 31 #[.int .i64 0] ∧ HE.ok (set9 w4 w.heap.size (.int .i64 e'.op) (.int .i64 e'.n) (.int .i64 e'.m) (.int .i64 e'.kind) (.int .i64 e'.lit.k) (.int .i64 e'.lit.n) (.string e'.lit.s) (.slice A e'.args.length c) (.slice R e'.rels.length d)) (fun b => w.heap.size + 1 + 1 + 1 ≤ b ∧ b < ((set9 w4 w.heap.size (.int .i64 e'.op) (.int .i64 e'.n) (.int .i64 e'.m) (.int .i64 e'.kind) (.int .i64 e'.lit.k) (.int .i64 e'.lit.n) (.string e'.lit.s) (.slice A e'.args.length c) (.slice R e'.rels.length d))).heap.size) ⟨e', A, c, R, d⟩) := Lib.hid ⟨H4.out.1.trans (st9' (Nat.le_refl _) (.int .i64 e'.op) (.int .i64 e'.n) (.int .i64 e'.m) (.int .i64 e'.kind) (.int .i64 e'.lit.k) (.int .i64 e'.lit.n) (.string e'.lit.s) (.slice A e'.args.length c) (.slice R e'.rels.length d)), ⟨H4.out.2.1.1.below (st9' (B := w.heap.size) (Nat.le_refl _) (.int .i64 e'.op) (.int .i64 e'.n) (.int .i64 e'.m) (.int .i64 e'.kind) (.int .i64 e'.lit.k) (.int .i64 e'.lit.n) (.string e'.lit.s) (.slice A e'.args.length c) (.slice R e'.rels.length d)) h9, H4.out.2.1.2.below (st9' (B := w.heap.size) (Nat.le_refl _) (.int .i64 e'.op) (.int .i64 e'.n) (.int .i64 e'.m) (.int .i64 e'.kind) (.int .i64 e'.lit.k) (.int .i64 e'.lit.n) (.string e'.lit.s) (.slice A e'.args.length c) (.slice R e'.rels.length d)) (by omega)⟩, H4.out.2.2.1.set9_ (.int .i64 e'.op) (.int .i64 e'.n) (.int .i64 e'.m) (.int .i64 e'.kind) (.int .i64 e'.lit.k) (.int .i64 e'.lit.n) (.string e'.lit.s) (.slice A e'.args.length c) (.slice R e'.rels.length d), H4.out.2.2.2.1.far9 (by omega) (.int .i64 e'.op) (.int .i64 e'.n) (.int .i64 e'.m) (.int .i64 e'.kind) (.int .i64 e'.lit.k) (.int .i64 e'.lit.n) (.string e'.lit.s) (.slice A e'.args.length c) (.slice R e'.rels.length d), H4.out.2.2.2.2.kept (fun b hb => set9_far _ _ _ _ _ _ _ _ _ _ _ b (by have := hb.1; omega)) fun b hb => ⟨hb.1, by rw [set9_size]; exact hb.2⟩⟩
  have HSx := Lib.hid (HSt.out A R c d (set9 w4 w.heap.size (.int .i64 e'.op) (.int .i64 e'.n) (.int .i64 e'.m) (.int .i64 e'.kind) (.int .i64 e'.lit.k) (.int .i64 e'.lit.n) (.string e'.lit.s) (.slice A e'.args.length c) (.slice R e'.rels.length d)) H5.out.2.1.1 H5.out.2.1.2 (EHas.of H5.out.2.2.2.2 (fun b hb => hb.2) HG.out.2.2.2.1 HG.out.2.2.2.2))
  have hr := H5.out.2.2.1
  have c0 := hr.cell 0
  have c1 := hr.cell 1
  have c2 := hr.cell 2
  have c3 := hr.cell 3
  have c4 := hr.cell 4
  have c5 := hr.cell 5
  have c6 := hr.cell 6
  have c7 := hr.cell 7
  have c8 := hr.cell 8
  simp only [List.getElem?_toArray, List.getElem?_cons_succ, List.getElem?_cons_zero] at c0 c1 c2 c3 c4 c5 c6 c7 c8
  unfold HE.val E.val
  unfold E.val at HSx
  clear hb4 hp4 hok hq hr HX HB0 H4 HSt hs3 hs4 h9 hgb
  go_wp2_with fail
  refine HSx.out.mono ?_
  rintro x w6 ⟨rfl, hb6⟩
  have hs6 := hb6.size
  rw [set9_size] at hs6
  have H6 : Hid (Below w.heap.size w w6 ∧ (GE w6 ∧ GS w6) ∧ Blk w6 w.heap.size 30 #[.int .i64 e'.op, .int .i64 e'.n, .int .i64 e'.m, .int .i64 e'.kind, .int .i64 e'.lit.k, .int .i64 e'.lit.n, .string e'.lit.s, .slice A e'.args.length c, .slice R e'.rels.length d] ∧ Blk w6 (w.heap.size + 1) 31 #[.int .i64 0] ∧ HE.ok w6 (fun b => w.heap.size + 1 + 1 + 1 ≤ b ∧ b < (w6).heap.size) ⟨e', A, c, R, d⟩) := Lib.hid ⟨H5.out.1.trans (hb6.mono (by rw [set9_size]; have := H9.out.2.1; omega)), ⟨H5.out.2.1.1.thn hb6, H5.out.2.1.2.thn hb6⟩, H5.out.2.2.1.below hb6 H5.out.2.2.1.lt, H5.out.2.2.2.1.below hb6 H5.out.2.2.2.1.lt, H5.out.2.2.2.2.kept (fun b hb => hb6.block b hb.2) fun b hb => ⟨hb.1, Nat.lt_of_lt_of_le hb.2 hb6.size⟩⟩
  clear hb6 HSx H5 d0 fd0 c0 d1 fd1 c1 d2 fd2 c2 d3 fd3 c3 d4 fd4 c4 d5 fd5 c5 d6 fd6 c6 d7 fd7 c7 d8 fd8 c8 hlt4 hlt4b hs6
  have hq := H6.out.2.2.1
  have hq2 := H6.out.2.2.2.1
  have hl1 := hq.lt
  have hl2 := hq2.lt
  have fd0 := hq.frozen 0
  have d0 := hq.cell 0
  have fd1 := hq.frozen 1
  have d1 := hq.cell 1
  have fd2 := hq.frozen 2
  have d2 := hq.cell 2
  have fd3 := hq.frozen 3
  have d3 := hq.cell 3
  have fd4 := hq.frozen 4
  have d4 := hq.cell 4
  have fd5 := hq.frozen 5
  have d5 := hq.cell 5
  have fd6 := hq.frozen 6
  have d6 := hq.cell 6
  have fd7 := hq.frozen 7
  have d7 := hq.cell 7
  have fd8 := hq.frozen 8
  have d8 := hq.cell 8
  simp only [List.getElem?_toArray, List.getElem?_cons_succ, List.getElem?_cons_zero] at d0 d1 d2 d3 d4 d5 d6 d7 d8
  have fy0 := hq2.frozen 0
  have y0 := hq2.cell 0
  simp only [List.getElem?_toArray, List.getElem?_cons_zero] at y0
  have H8 : Hid (Below w.heap.size w (World.setCell (set9 w6 w.heap.size (.int .i64 e'.op) (.int .i64 e'.n) (.int .i64 e'.m) (.int .i64 e'.kind) (.int .i64 e'.lit.k) (.int .i64 e'.lit.n) (.string e'.lit.s) (.slice A e'.args.length c) (.slice R e'.rels.length d)) ⟨w.heap.size + 1, 0, none⟩ (.int .i64 0)) ∧ Blk (World.setCell (set9 w6 w.heap.size (.int .i64 e'.op) (.int .i64 e'.n) (.int .i64 e'.m) (.int .i64 e'.kind) (.int .i64 e'.lit.k) (.int .i64 e'.lit.n) (.string e'.lit.s) (.slice A e'.args.length c) (.slice R e'.rels.length d)) ⟨w.heap.size + 1, 0, none⟩ (.int .i64 0)) w.heap.size 30 #[.int .i64 e'.op, .int .i64 e'.n, .int .i64 e'.m, .int .i64 e'.kind, .int .i64 e'.lit.k, .int .i64 e'.lit.n, .string e'.lit.s, .slice A e'.args.length c, .slice R e'.rels.length d] ∧ Blk (World.setCell (set9 w6 w.heap.size (.int .i64 e'.op) (.int .i64 e'.n) (.int .i64 e'.m) (.int .i64 e'.kind) (.int .i64 e'.lit.k) (.int .i64 e'.lit.n) (.string e'.lit.s) (.slice A e'.args.length c) (.slice R e'.rels.length d)) ⟨w.heap.size + 1, 0, none⟩ (.int .i64 0)) (w.heap.size + 1) 31 #[.int .i64 0] ∧ HE.ok (World.setCell (set9 w6 w.heap.size (.int .i64 e'.op) (.int .i64 e'.n) (.int .i64 e'.m) (.int .i64 e'.kind) (.int .i64 e'.lit.k) (.int .i64 e'.lit.n) (.string e'.lit.s) (.slice A e'.args.length c) (.slice R e'.rels.length d)) ⟨w.heap.size + 1, 0, none⟩ (.int .i64 0)) (fun b => w.heap.size ≤ b ∧ b < ((World.setCell (set9 w6 w.heap.size (.int .i64 e'.op) (.int .i64 e'.n) (.int .i64 e'.m) (.int .i64 e'.kind) (.int .i64 e'.lit.k) (.int .i64 e'.lit.n) (.string e'.lit.s) (.slice A e'.args.length c) (.slice R e'.rels.length d)) ⟨w.heap.size + 1, 0, none⟩ (.int .i64 0))).heap.size) ⟨e', A, c, R, d⟩) := Lib.hid ⟨(H6.out.1.trans (st9' (Nat.le_refl _) (.int .i64 e'.op) (.int .i64 e'.n) (.int .i64 e'.m) (.int .i64 e'.kind) (.int .i64 e'.lit.k) (.int .i64 e'.lit.n) (.string e'.lit.s) (.slice A e'.args.length c) (.slice R e'.rels.length d))).setCell (p := ⟨w.heap.size + 1, 0, none⟩) (by simp) _, (hq.set9_ (.int .i64 e'.op) (.int .i64 e'.n) (.int .i64 e'.m) (.int .i64 e'.kind) (.int .i64 e'.lit.k) (.int .i64 e'.lit.n) (.string e'.lit.s) (.slice A e'.args.length c) (.slice R e'.rels.length d)).far (by simp) _, (hq2.far9 (by omega) (.int .i64 e'.op) (.int .i64 e'.n) (.int .i64 e'.m) (.int .i64 e'.kind) (.int .i64 e'.lit.k) (.int .i64 e'.lit.n) (.string e'.lit.s) (.slice A e'.args.length c) (.slice R e'.rels.length d)).set_ 0 _, H6.out.2.2.2.2.kept (fun b hb => (Below.heap_setCell _ ⟨w.heap.size + 1, 0, none⟩ _ b (by have := hb.1; show b ≠ w.heap.size + 1; omega)).trans (set9_far _ _ _ _ _ _ _ _ _ _ _ b (by have := hb.1; omega))) fun b hb => ⟨by have := hb.1; omega, by simp only [World.setCell, Array.size_modify]; have := hb.2; omega⟩⟩
  clear hq hq2
  go_wp2_with fail
  refine leaves_cons (f := 67) (args := #[.pointer (some ⟨w.heap.size, 0, none⟩), .pointer (some ⟨w.heap.size + 1, 0, none⟩)]) (by simp) (by simp [go_sem]) ?_
  refine (catchP_idle _ _ _).mono ?_
  rintro y u' w'' ⟨rfl, rfl, rfl⟩
  generalize (World.setCell (set9 w6 w.heap.size (.int .i64 e'.op) (.int .i64 e'.n) (.int .i64 e'.m) (.int .i64 e'.kind) (.int .i64 e'.lit.k) (.int .i64 e'.lit.n) (.string e'.lit.s) (.slice A e'.args.length c) (.slice R e'.rels.length d)) ⟨w.heap.size + 1, 0, none⟩ (.int .i64 0)) = wf at H8 ⊢
  have hq := H8.out.2.1
  have hq2 := H8.out.2.2.1
  have k0 := hq.cell 0
  have k1 := hq.cell 1
  have k2 := hq.cell 2
  have k3 := hq.cell 3
  have k4 := hq.cell 4
  have k5 := hq.cell 5
  have k6 := hq.cell 6
  have k7 := hq.cell 7
  have k8 := hq.cell 8
  simp only [List.getElem?_toArray, List.getElem?_cons_succ, List.getElem?_cons_zero] at k0 k1 k2 k3 k4 k5 k6 k7 k8
  have z0 := hq2.cell 0
  simp only [List.getElem?_toArray, List.getElem?_cons_zero] at z0
  simp [Leaves, settle, results, Tryz.results27, go_sem, k0, k1, k2, k3, k4, k5, k6, k7, k8, z0]
  exact ⟨⟨e', A, c, R, d⟩, rfl, rfl, H8.out.1, H8.out.2.2.2⟩
end Go.Proofs.YtdiehgfldndgbaaGreatDoor
namespace Go.Proofs.YtdiehgfldndgbaaGreatDoor
open Go.RowKit Go.Deep

theorem cutEL_len : ∀ (left : Nat) (l : List E), (cutEL left l).1.length ≤ l.length
  | left, [] => by simp [cutEL]
  | left, e :: l => by
    rw [cutEL]
    split
    · simp
    · have := cutEL_len (cutE left e).2 l
      simp only [List.length_cons]
      omega
mutual
theorem cutE_in : ∀ (left : Nat) (e : E), EIn e → EIn (cutE left e).1
  | left, .mk op n m k lit args rels, h => by
    rw [EIn] at h
    obtain ⟨h0, h1, h2, h3, h4, h5, h6, h7, h8, h9, h10⟩ := h
    have hl := cutEL_len (left - 1) args
    rw [cutE]
    show EIn (.mk op n m k lit.cutT (cutEL (left - 1) args).1 (rels.take 2))
    rw [EIn]
    refine ⟨h0, h1, h2, h3, h4, h5, ?_, by omega, by rw [List.length_take]; omega, fun x hx => h9 x (List.mem_of_mem_take hx), cutEL_in (left - 1) args h10⟩
    show (lit.s.extract 0 (min lit.s.size 202)).size ≤ maxLen
    rw [ByteArray.size_extract]
    omega
theorem cutEL_in : ∀ (left : Nat) (l : List E), LIn l → LIn (cutEL left l).1
  | left, [], _ => by rw [cutEL]; show LIn []; rw [LIn]; trivial
  | left, e :: l, h => by
    rw [LIn] at h
    rw [cutEL]
    split
    · show LIn []; rw [LIn]; trivial
    · show LIn ((cutE left e).1 :: (cutEL (cutE left e).2 l).1)
      rw [LIn]
      exact ⟨cutE_in left e h.1, cutEL_in (cutE left e).2 l h.2⟩
end
theorem veq_self (k n : Int) (s : ByteArray) : veq k n s k n s = true := by simp [veq]
/-- an expression that was cut, as a call is given it -/
theorem cut_has {w : World} {e : E} {h : HE} (hI : EIn e) (he : h.e = (cutE 420 e).1) (hok : h.ok w (Lo w.heap.size)) : EHas w h.e h.A h.R ∧ EIn h.e := by
  have h1 := cutE_count 420 e (by decide)
  have h2 : EIn h.e := by rw [he]; exact cutE_in 420 e hI
  have h3 : nodesE h.e ≤ 420 := by rw [he]; omega
  exact ⟨⟨by omega, fitX_of h.e h2 (by omega), hok.1, hok.2⟩, h2⟩
end Go.Proofs.YtdiehgfldndgbaaGreatDoor
namespace Go.Proofs.YtdiehgfldndgbaaGreatDoor
open Go.RowKit Go.Deep

set_option maxHeartbeats 4000000 in
set_option maxRecDepth 100000 in
theorem CutW_any (e : E) (A R : Option Addr) (c d : Nat) (w : World) (hI : EIn e) (hA : LOk w (Lo w.heap.size) A e.args) (hR : ROk w (Lo w.heap.size) R e.rels) :
    Calls Tryz.prog 20 #[e.val A c R d] w fun x w' => ∃ h : HE, h.e = (cutE 420 e).1 ∧ x = .returned h.val ∧ Below w.heap.size w w' ∧ h.ok w' (fun b => w.heap.size ≤ b ∧ b < w'.heap.size) := by
  have hb0 : Below w.heap.size w ((w.alloc (.cells #[.int .i64 e.op, .int .i64 e.n, .int .i64 e.m, .int .i64 e.kind, .int .i64 e.lit.k, .int .i64 e.lit.n, .string e.lit.s, .slice A e.args.length c, .slice R e.rels.length d] 30)).alloc (.cells #[.int .i64 0, .int .i64 0, .int .i64 0, .int .i64 0, .int .i64 0, .int .i64 0, .string ⟨#[]⟩, .slice none 0 0, .slice none 0 0] 30)) := al (al (Below.refl _ _) _) _
  have HK := Lib.hid (CutE_any 420 e A R c d ((w.alloc (.cells #[.int .i64 e.op, .int .i64 e.n, .int .i64 e.m, .int .i64 e.kind, .int .i64 e.lit.k, .int .i64 e.lit.n, .string e.lit.s, .slice A e.args.length c, .slice R e.rels.length d] 30)).alloc (.cells #[.int .i64 0, .int .i64 0, .int .i64 0, .int .i64 0, .int .i64 0, .int .i64 0, .string ⟨#[]⟩, .slice none 0 0, .slice none 0 0] 30)) (by decide) (by decide) hI (hA.below hb0 hb0.size) (hR.below hb0 hb0.size))
  have HB0 : Hid (Below w.heap.size w ((w.alloc (.cells #[.int .i64 e.op, .int .i64 e.n, .int .i64 e.m, .int .i64 e.kind, .int .i64 e.lit.k, .int .i64 e.lit.n, .string e.lit.s, .slice A e.args.length c, .slice R e.rels.length d] 30)).alloc (.cells #[.int .i64 0, .int .i64 0, .int .i64 0, .int .i64 0, .int .i64 0, .int .i64 0, .string ⟨#[]⟩, .slice none 0 0, .slice none 0 0] 30)) ∧ Blk ((w.alloc (.cells #[.int .i64 e.op, .int .i64 e.n, .int .i64 e.m, .int .i64 e.kind, .int .i64 e.lit.k, .int .i64 e.lit.n, .string e.lit.s, .slice A e.args.length c, .slice R e.rels.length d] 30)).alloc (.cells #[.int .i64 0, .int .i64 0, .int .i64 0, .int .i64 0, .int .i64 0, .int .i64 0, .string ⟨#[]⟩, .slice none 0 0, .slice none 0 0] 30)) (w.heap.size + 1) 30 #[.int .i64 0, .int .i64 0, .int .i64 0, .int .i64 0, .int .i64 0, .int .i64 0, .string ⟨#[]⟩, .slice none 0 0, .slice none 0 0]) := Lib.hid ⟨hb0, Blk.new' (by simp)⟩
  clear hI hA hR hb0
  unfold E.val at HK ⊢
  go_enter Tryz.func20, Tryz.ntmps20
  go_wp2_with fail
  refine HK.out.mono ?_
  rintro x w2 ⟨h, he, rfl, hb2, hok⟩
  have HE2 := Lib.hid he
  have H2 : Hid (Below w.heap.size w (w2.alloc (.cells #[.int .i64 h.e.op, .int .i64 h.e.n, .int .i64 h.e.m, .int .i64 h.e.kind, .int .i64 h.e.lit.k, .int .i64 h.e.lit.n, .string h.e.lit.s, .slice h.A h.e.args.length h.c, .slice h.R h.e.rels.length h.d] 30)) ∧ Blk (w2.alloc (.cells #[.int .i64 h.e.op, .int .i64 h.e.n, .int .i64 h.e.m, .int .i64 h.e.kind, .int .i64 h.e.lit.k, .int .i64 h.e.lit.n, .string h.e.lit.s, .slice h.A h.e.args.length h.c, .slice h.R h.e.rels.length h.d] 30)) (w.heap.size + 1) 30 #[.int .i64 0, .int .i64 0, .int .i64 0, .int .i64 0, .int .i64 0, .int .i64 0, .string ⟨#[]⟩, .slice none 0 0, .slice none 0 0] ∧ h.ok (w2.alloc (.cells #[.int .i64 h.e.op, .int .i64 h.e.n, .int .i64 h.e.m, .int .i64 h.e.kind, .int .i64 h.e.lit.k, .int .i64 h.e.lit.n, .string h.e.lit.s, .slice h.A h.e.args.length h.c, .slice h.R h.e.rels.length h.d] 30)) (fun b => w.heap.size + 1 + 1 ≤ b ∧ b < w2.heap.size)) := Lib.hid ⟨al (thn HB0.out.1 hb2) _, ((HB0.out.2.below hb2 (by simp)).alloc _), hok.kept (fun b hb => Below.heap_alloc w2 _ b hb.2) fun b hb => ⟨by have := hb.1; simp at this; omega, hb.2⟩⟩
  have hs2 := hb2.size
  unfold HE.val E.val
  clear hb2 hok he HK HB0
  have hBr := H2.out.2.1
  have hBl := hBr.lt
  have f0 := hBr.frozen 0
  have d0 := hBr.cell 0
  have f1 := hBr.frozen 1
  have d1 := hBr.cell 1
  have f2 := hBr.frozen 2
  have d2 := hBr.cell 2
  have f3 := hBr.frozen 3
  have d3 := hBr.cell 3
  have f4 := hBr.frozen 4
  have d4 := hBr.cell 4
  have f5 := hBr.frozen 5
  have d5 := hBr.cell 5
  have f6 := hBr.frozen 6
  have d6 := hBr.cell 6
  have f7 := hBr.frozen 7
  have d7 := hBr.cell 7
  have f8 := hBr.frozen 8
  have d8 := hBr.cell 8
  simp only [List.getElem?_toArray, List.getElem?_cons_succ, List.getElem?_cons_zero] at d0 d1 d2 d3 d4 d5 d6 d7 d8
  have H3 : Hid (Below w.heap.size w (set9 (w2.alloc (.cells #[.int .i64 h.e.op, .int .i64 h.e.n, .int .i64 h.e.m, .int .i64 h.e.kind, .int .i64 h.e.lit.k, .int .i64 h.e.lit.n, .string h.e.lit.s, .slice h.A h.e.args.length h.c, .slice h.R h.e.rels.length h.d] 30)) (w.heap.size + 1) (.int .i64 h.e.op) (.int .i64 h.e.n) (.int .i64 h.e.m) (.int .i64 h.e.kind) (.int .i64 h.e.lit.k) (.int .i64 h.e.lit.n) (.string h.e.lit.s) (.slice h.A h.e.args.length h.c) (.slice h.R h.e.rels.length h.d)) ∧ Blk (set9 (w2.alloc (.cells #[.int .i64 h.e.op, .int .i64 h.e.n, .int .i64 h.e.m, .int .i64 h.e.kind, .int .i64 h.e.lit.k, .int .i64 h.e.lit.n, .string h.e.lit.s, .slice h.A h.e.args.length h.c, .slice h.R h.e.rels.length h.d] 30)) (w.heap.size + 1) (.int .i64 h.e.op) (.int .i64 h.e.n) (.int .i64 h.e.m) (.int .i64 h.e.kind) (.int .i64 h.e.lit.k) (.int .i64 h.e.lit.n) (.string h.e.lit.s) (.slice h.A h.e.args.length h.c) (.slice h.R h.e.rels.length h.d)) (w.heap.size + 1) 30 #[.int .i64 h.e.op, .int .i64 h.e.n, .int .i64 h.e.m, .int .i64 h.e.kind, .int .i64 h.e.lit.k, .int .i64 h.e.lit.n, .string h.e.lit.s, .slice h.A h.e.args.length h.c, .slice h.R h.e.rels.length h.d] ∧ h.ok (set9 (w2.alloc (.cells #[.int .i64 h.e.op, .int .i64 h.e.n, .int .i64 h.e.m, .int .i64 h.e.kind, .int .i64 h.e.lit.k, .int .i64 h.e.lit.n, .string h.e.lit.s, .slice h.A h.e.args.length h.c, .slice h.R h.e.rels.length h.d] 30)) (w.heap.size + 1) (.int .i64 h.e.op) (.int .i64 h.e.n) (.int .i64 h.e.m) (.int .i64 h.e.kind) (.int .i64 h.e.lit.k) (.int .i64 h.e.lit.n) (.string h.e.lit.s) (.slice h.A h.e.args.length h.c) (.slice h.R h.e.rels.length h.d)) (fun b => w.heap.size ≤ b ∧ b < ((set9 (w2.alloc (.cells #[.int .i64 h.e.op, .int .i64 h.e.n, .int .i64 h.e.m, .int .i64 h.e.kind, .int .i64 h.e.lit.k, .int .i64 h.e.lit.n, .string h.e.lit.s, .slice h.A h.e.args.length h.c, .slice h.R h.e.rels.length h.d] 30)) (w.heap.size + 1) (.int .i64 h.e.op) (.int .i64 h.e.n) (.int .i64 h.e.m) (.int .i64 h.e.kind) (.int .i64 h.e.lit.k) (.int .i64 h.e.lit.n) (.string h.e.lit.s) (.slice h.A h.e.args.length h.c) (.slice h.R h.e.rels.length h.d))).heap.size)) := Lib.hid ⟨st9 H2.out.1 (by omega) (.int .i64 h.e.op) (.int .i64 h.e.n) (.int .i64 h.e.m) (.int .i64 h.e.kind) (.int .i64 h.e.lit.k) (.int .i64 h.e.lit.n) (.string h.e.lit.s) (.slice h.A h.e.args.length h.c) (.slice h.R h.e.rels.length h.d), hBr.set9_ (.int .i64 h.e.op) (.int .i64 h.e.n) (.int .i64 h.e.m) (.int .i64 h.e.kind) (.int .i64 h.e.lit.k) (.int .i64 h.e.lit.n) (.string h.e.lit.s) (.slice h.A h.e.args.length h.c) (.slice h.R h.e.rels.length h.d), H2.out.2.2.kept (fun b hb => set9_far _ _ _ _ _ _ _ _ _ _ _ b (by have := hb.1; omega)) fun b hb => ⟨by have := hb.1; omega, by rw [set9_size]; have := hb.2; simp; omega⟩⟩
  clear hBr
  go_wp2_with fail
  have k0 := H3.out.2.1.cell 0
  have k1 := H3.out.2.1.cell 1
  have k2 := H3.out.2.1.cell 2
  have k3 := H3.out.2.1.cell 3
  have k4 := H3.out.2.1.cell 4
  have k5 := H3.out.2.1.cell 5
  have k6 := H3.out.2.1.cell 6
  have k7 := H3.out.2.1.cell 7
  have k8 := H3.out.2.1.cell 8
  simp only [List.getElem?_toArray, List.getElem?_cons_succ, List.getElem?_cons_zero] at k0 k1 k2 k3 k4 k5 k6 k7 k8
  exact bodyPost_ret (v := .agg #[.int .i64 h.e.op, .int .i64 h.e.n, .int .i64 h.e.m, .int .i64 h.e.kind, .int .i64 h.e.lit.k, .int .i64 h.e.lit.n, .string h.e.lit.s, .slice h.A h.e.args.length h.c, .slice h.R h.e.rels.length h.d]) (by simp [results, Tryz.results20, go_sem, k0, k1, k2, k3, k4, k5, k6, k7, k8]) rfl ⟨h, HE2.out, rfl, H3.out.1, H3.out.2.2⟩
end Go.Proofs.YtdiehgfldndgbaaGreatDoor
