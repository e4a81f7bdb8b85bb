/-
  RefT: CONTRACT of the reference: Tame.
  Tam: CONTRACTS of the reference: a value of a Kind, made from any one (TameAs).
  TmR: CONTRACTS: rows that fit columns, made from any ones (TameRows).
-/
import Derived.Test.YtapnnheggjahlaaGreatDoorGB
import Derived.Test.YtapnnheggjahlaaGreatDoorGC
import Derived.Laws.IdiomStrings
import Derived.Test.YtapnnheggjahlaaGreatDoorGM
import Derived.StillTailTactics
import Derived.Test.YtapnnheggjahlaaGreatDoorCutR
namespace Go.Proofs.YtapnnheggjahlaaGreatDoor
open Go.RowKit

/-- the byte that Tame makes of a byte -/
def tameB (c : UInt8) : UInt8 := UInt8.ofNat (32 + c.toNat % 95)
theorem tameB_nat (c : UInt8) : ((tameB c).toNat : Int) = 32 + (c.toNat : Int) % 95 := by
  unfold tameB
  rw [UInt8.toNat_ofNat']
  omega
theorem tameB_ok (c : UInt8) : okByte (tameB c) = true := by
  have h := tameB_nat c
  rw [okByte_iff]
  omega
/-- string of one byte, freshly laid -/
theorem tame_byte (c : UInt8) (w : World) :
    (convert 108 9 (.slice (some ⟨w.heap.size, 0, none⟩) 1 1)).run Tryz.prog (w.alloc (.cells #[.int .u8 (32 + (c.toNat : Int) % 95)] 5)) = .ok (.string ⟨#[tameB c]⟩) (w.alloc (.cells #[.int .u8 (32 + (c.toNat : Int) % 95)] 5)) := by
  rw [← tameB_nat]
  refine run_convert_bytes_back (P := Tryz.prog) _ _ _ 5 ⟨w.heap.size, 0, none⟩ 1 [tameB c] Tryz.underlying108 Tryz.underlying5 Tryz.underlying9 fun j hj => ?_
  have h0 : j = 0 := by simpa using hj
  subst h0
  have hb := (Blk.new w 5 #[.int .u8 ((tameB c).toNat : Int)]).cell 0
  exact hb

end Go.Proofs.YtapnnheggjahlaaGreatDoor
namespace Go.Proofs.YtapnnheggjahlaaGreatDoor
open Go.RowKit

/-- what TameAs gives -/
def TameV (q : Int × Bool) (x : V) : Prop := V.ok x = true ∧ I64 x.n ∧ x.s.size ≤ 3 ∧ (okC q = true → fitB x q = true)
theorem abc_cut : ∀ r : Nat, r < 3 → (ByteArray.extract { data := #[97, 98, 39] } r (r + 1)).size = 1 ∧ okBytes (ByteArray.extract { data := #[97, 98, 39] } r (r + 1)).data.toList = true
  | 0, _ => by decide
  | 1, _ => by decide
  | 2, _ => by decide
  | n + 3, h => absurd h (by omega)
theorem abc_piece (c : UInt8) {q : ByteArray} {j : Nat} (h : okBytes q.data.toList = true) (hq : q.size = j) :
    okBytes (q ++ ByteArray.extract { data := #[97, 98, 39] } (c.toNat % 3) (c.toNat % 3 + 1)).data.toList = true ∧ (q ++ ByteArray.extract { data := #[97, 98, 39] } (c.toNat % 3) (c.toNat % 3 + 1)).size = j + 1 := by
  obtain ⟨h1, h2⟩ := abc_cut (c.toNat % 3) (Nat.mod_lt _ (by omega))
  generalize ByteArray.extract { data := #[97, 98, 39] } (c.toNat % 3) (c.toNat % 3 + 1) = p at *
  refine ⟨?_, by rw [ByteArray.size_append, h1, hq]⟩
  rw [ByteArray.data_append, Array.toList_append]
  unfold okBytes at *
  rw [List.all_append, h, h2]; rfl
theorem wrapI (n : Int) : I64 (wrap64 n) := by unfold wrap64 I64; omega
set_option maxHeartbeats 2000000 in
set_option maxRecDepth 100000 in
theorem TameAs_any (k n : Int) (s : ByteArray) (q : Int × Bool) (w : World) (hn : I64 n) (hs : s.size ≤ maxLen) :
    Calls Tryz.prog 110 #[.agg #[.int .i64 k, .int .i64 n, .string s], .agg #[.int .i64 q.1, .bool q.2]] w fun e w' => ∃ x : V, e = .returned (.agg #[.int .i64 x.k, .int .i64 x.n, .string x.s]) ∧ TameV q x ∧ Below w.heap.size w w' := by
  obtain ⟨m, nl⟩ := q
  have hs := Nat.le_trans hs (Nat.le_refl _)
  unfold maxLen at hs
  have HN := Lib.hid hn
  have HNULL : Hid (nl = true → TameV (m, nl) ⟨0, 0, ⟨#[]⟩⟩) := fun h => ⟨rfl, (show I64 0 from ⟨by decide, by decide⟩), by decide, fun _ => by simp [fitB, h]⟩
  have HINT : Hid (∀ z : Int, I64 z → m ≠ 2 → m ≠ 3 → TameV (m, nl) ⟨1, z, ⟨#[]⟩⟩) := fun z hz h2 h3 => ⟨rfl, hz, (show ByteArray.size ⟨#[]⟩ ≤ 3 by decide), fun h => by
    have : m = 1 := by simp [okC, h2, h3] at h; exact h
    simp [fitB, this]⟩
  have HBOOL : Hid (∀ b : Bool, m = 2 → TameV (m, nl) ⟨2, b2i b, ⟨#[]⟩⟩) := fun b h => ⟨by cases b <;> rfl, by cases b <;> exact ⟨by decide, by decide⟩, (show ByteArray.size ⟨#[]⟩ ≤ 3 by decide), fun _ => by simp [fitB, h]⟩
  have HTEXT : Hid (∀ t : ByteArray, m = 3 → okBytes t.data.toList = true → t.size ≤ 3 → TameV (m, nl) ⟨3, 0, t⟩) := fun t h h1 h2 => ⟨by
    show okVal 3 0 t.data.toList = true
    unfold okVal okText
    rw [h1]
    have : t.data.toList.length = t.size := by simp
    simp; omega, (show I64 0 from ⟨by decide, by decide⟩), h2, fun _ => by simp [fitB, h]⟩
  clear hn
  generalize hb5 : ((IntKind.u64.wrap n).tmod 5 == 4) = b5
  generalize hb16 : ((IntKind.u64.wrap n).tmod 16 == 15) = b16
  generalize hk0 : (k == 0) = k0
  have W0 := Lib.hid (al (al (al (Below.refl w.heap.size w) (.cells #[.int .i64 k, .int .i64 n, .string s] 78)) (.cells #[.int .i64 m, .bool nl] 82)) (.cells #[.int .i64 0, .int .i64 0, .string ⟨#[]⟩] 78))
  have R1 : Blk (((w.alloc (.cells #[.int .i64 k, .int .i64 n, .string s] 78)).alloc (.cells #[.int .i64 m, .bool nl] 82)).alloc (.cells #[.int .i64 0, .int .i64 0, .string ⟨#[]⟩] 78)) (w.heap.size + 1 + 1) 78 #[.int .i64 0, .int .i64 0, .string ⟨#[]⟩] := Blk.new' (by simp)
  have R0 := ((Blk.new' (w := w) (g := w.heap.size) (t := 78) (cs := #[.int .i64 k, .int .i64 n, .string s]) rfl).alloc (.cells #[.int .i64 m, .bool nl] 82)).alloc (.cells #[.int .i64 0, .int .i64 0, .string ⟨#[]⟩] 78)
  by_cases hnull : nl = true ∧ (k0 = true ∨ b5 = true)
  · obtain ⟨rfl, hor⟩ := hnull
    have hor2 : k0 = true ∨ (k0 = false ∧ b5 = true) := by cases k0 <;> simp_all
    have HX := Lib.hid (HNULL.out rfl)
    clear HNULL HINT HBOOL HTEXT hor
    rcases hor2 with rfl | ⟨rfl, rfl⟩
    all_goals
      go_enter Tryz.func110, Tryz.ntmps110
      go_wp2_with fail
      refine (rNull_any _).mono ?_
      rintro e w1 ⟨rfl, hb1⟩
      have W1 := thn W0.out hb1
      have R2 := R1.below hb1 (by simp)
      obtain ⟨⟨k0, k1, k2⟩, f0, f1, f2⟩ := R2.three
      clear hb1 R1
      go_wp2_with fail
      refine bodyPost_ret (v := .agg #[.int .i64 0, .int .i64 0, .string ⟨#[]⟩]) (by simp [results, Tryz.results110, go_sem, k0, k1, k2]) rfl ⟨⟨0, 0, ⟨#[]⟩⟩, rfl, HX.out, st3 (g := w.heap.size + 1 + 1) W1 (by omega) _ _ _⟩
  · have hcase : nl = false ∨ (nl = true ∧ k0 = false ∧ b5 = false) := by cases nl <;> cases k0 <;> cases b5 <;> simp_all
    clear hnull
    by_cases h2 : m = 2
    · subst h2
      have HX := Lib.hid (HBOOL.out (n.tmod 2 != 0) rfl)
      clear HNULL HINT HBOOL HTEXT
      rcases hcase with rfl | ⟨rfl, rfl, rfl⟩
      all_goals
        go_enter Tryz.func110, Tryz.ntmps110
        go_wp2_with fail
        refine (rBool_any _ _).mono ?_
        rintro e w1 ⟨rfl, hb1⟩
        have W1 := thn W0.out hb1
        have R2 := R1.below hb1 (by simp)
        obtain ⟨⟨k0, k1, k2⟩, f0, f1, f2⟩ := R2.three
        clear hb1 R1
        go_wp2_with fail
        refine bodyPost_ret (v := .agg #[.int .i64 2, .int .i64 (b2i (n.tmod 2 != 0)), .string ⟨#[]⟩]) (by simp [results, Tryz.results110, go_sem, k0, k1, k2]) rfl ⟨⟨2, (b2i (n.tmod 2 != 0)), ⟨#[]⟩⟩, rfl, HX.out, st3 (g := w.heap.size + 1 + 1) W1 (by omega) _ _ _⟩
    · have e2 : (m == 2) = false := by simp [h2]
      by_cases h3 : m = 3
      · subst h3
        clear h2
        have HX := Lib.hid (fun t => HTEXT.out t rfl)
        clear HNULL HINT HBOOL HTEXT
        rcases hcase with rfl | ⟨rfl, rfl, rfl⟩
        all_goals
          go_enter Tryz.func110, Tryz.ntmps110
          go_wp2_with fail
          go_loopw [5, 6] (fun t i wr => ∃ (j : Nat) (q : ByteArray), j ≤ s.size ∧ j ≤ 3 ∧ i = .int .i64 j ∧ t = .string q ∧ Hid (okBytes q.data.toList = true) ∧ q.size = j ∧ Hid (Below w.heap.size w wr) ∧ Blk wr w.heap.size 78 #[.int .i64 k, .int .i64 n, .string s] ∧ Blk wr (w.heap.size + 1 + 1) 78 #[.int .i64 0, .int .i64 0, .string ⟨#[]⟩]) (fun _ i _ => s.size - (intOf i).toNat)
          case atStart => exact ⟨0, _, Nat.zero_le _, Nat.zero_le _, rfl, rfl, rfl, rfl, W0.out, R0, R1⟩
          case round =>
            obtain ⟨j, q, hj, hj3, rfl, rfl, HQ, hq, HB, B0, B1⟩ := hrel
            obtain ⟨⟨a0, a1, a2⟩, ax⟩ := B0.three
            clear ax
            by_cases hc : j < s.size ∧ j < 3
            · obtain ⟨hlt, hl3⟩ := hc
              have X2 : ∀ x : Aft wr, x.w.cell? ⟨w.heap.size, 2, none⟩ = some (.string s) := fun x => (x.h.cell (p := ⟨w.heap.size, _, none⟩) B0.lt).trans a2
              have hji : (j : Int) < (s.size : Int) := by omega
              clear a0 a1
              go_wp2_with fail
              refine region_aft (by kernel_rfl) (by kernel_rfl) ?_
              repeat (go_big_quiet_step (fail))
              refine wpQuiet_nil ?_
              intro x9
              have HP := Lib.hid (abc_piece s[j] HQ.out hq)
              generalize q ++ ByteArray.extract { data := #[97, 98, 39] } (s[j].toNat % 3) (s[j].toNat % 3 + 1) = q2 at *
              have B0' : Hid (_ ∧ _ ∧ _) := Lib.hid (And.intro (thn HB.out x9.h) (And.intro (B0.below x9.h B0.lt) (B1.below x9.h B1.lt)))
              clear X2 HQ
              go_wp2_with fail
              go_roundw
              case rel => exact ⟨j + 1, q2, by omega, by omega, by go_num, rfl, HP.out.1, HP.out.2, B0'.out.1, B0'.out.2.1, B0'.out.2.2⟩
              case measure => simp [intOf]; omega
            · have hc' : (j < s.size ∧ ¬ j < 3) ∨ ¬ j < s.size := by omega
              clear hc
              rcases hc' with ⟨hlt, hl3⟩ | hlt
              all_goals
                go_wp2_with fail
                refine (rText_any _ _).mono ?_
                rintro e w1 ⟨rfl, hb1⟩
                have W1 := thn HB.out hb1
                have R2 := B1.below hb1 B1.lt
                obtain ⟨⟨k0, k1, k2⟩, f0, f1, f2⟩ := R2.three
                clear hb1 R1
                go_wp2_with fail
                refine bodyPost_ret (v := .agg #[.int .i64 3, .int .i64 0, .string q]) (by simp [results, Tryz.results110, go_sem, k0, k1, k2]) rfl ⟨⟨3, 0, q⟩, rfl, HX.out q HQ.out (by omega), st3 (g := w.heap.size + 1 + 1) W1 (by omega) _ _ _⟩
      · have e3 : (m == 3) = false := by simp [h3]
        cases b16
        · rcases hcase with rfl | ⟨rfl, rfl, rfl⟩
          all_goals
            have HI2 := Lib.hid (fun z hz => HINT.out z hz h2 h3)
            clear h2 h3 HNULL HINT HBOOL HTEXT
            go_enter Tryz.func110, Tryz.ntmps110
            go_wp2_with fail
            have HW := Lib.hid (HI2.out _ (wrapI (wrap64 ((IntKind.u64.wrap n).tmod 7) - 2)))
            generalize wrap64 (wrap64 ((IntKind.u64.wrap n).tmod 7) - 2) = z at *
            refine (rInt_any _ _).mono ?_
            rintro e w1 ⟨rfl, hb1⟩
            have W1 := thn W0.out hb1
            have R2 := R1.below hb1 (by simp)
            obtain ⟨⟨k0, k1, k2⟩, f0, f1, f2⟩ := R2.three
            clear hb1 R1
            go_wp2_with fail
            refine bodyPost_ret (v := .agg #[.int .i64 1, .int .i64 z, .string ⟨#[]⟩]) (by simp [results, Tryz.results110, go_sem, k0, k1, k2]) rfl ⟨⟨1, z, ⟨#[]⟩⟩, rfl, HW.out, st3 (g := w.heap.size + 1 + 1) W1 (by omega) _ _ _⟩
        · have HI2 := Lib.hid (HINT.out n HN.out h2 h3)
          clear h2 h3 HNULL HINT HBOOL HTEXT
          rcases hcase with rfl | ⟨rfl, rfl, rfl⟩
          all_goals
            go_enter Tryz.func110, Tryz.ntmps110
            go_wp2_with fail
            refine (rInt_any _ _).mono ?_
            rintro e w1 ⟨rfl, hb1⟩
            have W1 := thn W0.out hb1
            have R2 := R1.below hb1 (by simp)
            obtain ⟨⟨k0, k1, k2⟩, f0, f1, f2⟩ := R2.three
            clear hb1 R1
            go_wp2_with fail
            refine bodyPost_ret (v := .agg #[.int .i64 1, .int .i64 n, .string ⟨#[]⟩]) (by simp [results, Tryz.results110, go_sem, k0, k1, k2]) rfl ⟨⟨1, n, ⟨#[]⟩⟩, rfl, HI2.out, st3 (g := w.heap.size + 1 + 1) W1 (by omega) _ _ _⟩
end Go.Proofs.YtapnnheggjahlaaGreatDoor
namespace Go.Proofs.YtapnnheggjahlaaGreatDoor
open Go.RowKit

/-- a row that was made for columns -/
def TameRw (cs : List (Int × Bool)) (n : Nat) (r : List V) : Prop := r.length = n ∧ ∀ (i : Nat) (v : V) (q : Int × Bool), r[i]? = some v → cs[i]? = some q → TameV q v
theorem TameRw.snoc {cs : List (Int × Bool)} {n : Nat} {r : List V} {v : V} {q : Int × Bool} (h : TameRw cs n r) (hq : cs[n]? = some q) (hv : TameV q v) : TameRw cs (n + 1) (r ++ [v]) := by
  refine ⟨by rw [List.length_append, h.1]; rfl, fun i u p hi hp => ?_⟩
  rcases Nat.lt_or_ge i r.length with hl | hl
  · rw [List.getElem?_append_left hl] at hi
    exact h.2 i u p hi hp
  · rw [List.getElem?_append_right hl] at hi
    have : i - r.length = 0 := by
      rcases Nat.eq_zero_or_pos (i - r.length) with e | e
      · exact e
      · rw [List.getElem?_eq_none (by simp; omega)] at hi; cases hi
    rw [this] at hi
    have hin : i = n := by rw [← h.1]; omega
    rw [hin, hq] at hp
    cases hi; cases hp; exact hv
/-- what the operations of the row's region hold -/
def dTam (u : Value) (kx nx : Int) (sx : ByteArray) (A : Option Addr) (n c k : Nat) (pc : Addr) (q : Int × Bool) (B : Nat) : Nat → Value → World → Prop
  | 0, v, _ => v = u
  | 1, v, _ => v = .agg #[.int .i64 kx, .int .i64 nx, .string sx]
  | 2, v, _ => v = .slice A n c
  | 3, v, _ => v = .int .i64 (k : Nat)
  | 4, v, _ => v = .pointer (some pc)
  | 5, v, _ => v = .agg #[.int .i64 q.1, .bool q.2]
  | 6, v, _ => ∃ y : V, v = .agg #[.int .i64 y.k, .int .i64 y.n, .string y.s] ∧ TameV q y
  | _, v, w => ∃ (g : Nat) (y : V), v = .slice (some ⟨g, 0, none⟩) 1 1 ∧ B ≤ g ∧ Blk w g 78 #[.int .i64 y.k, .int .i64 y.n, .string y.s] ∧ TameV q y
theorem dTam_below {u : Value} {kx nx : Int} {sx : ByteArray} {A : Option Addr} {n c k : Nat} {pc : Addr} {q : Int × Bool} {B : Nat} (i : Nat) (v : Value) (w1 w2 : World) (hb : Below w1.heap.size w1 w2) (h : dTam u kx nx sx A n c k pc q B i v w1) : dTam u kx nx sx A n c k pc q B i v w2 := by
  unfold dTam at h ⊢
  split at h <;> first | exact h | (obtain ⟨g, y, h1, h2, h3, h4⟩ := h; exact ⟨g, y, h1, h2, h3.below hb h3.lt, h4⟩)
set_option maxHeartbeats 4000000 in
set_option maxRecDepth 100000 in
theorem TameRows_any (A B : Option Addr) (c c' : Nat) (cs : List (Int × Bool)) (L : List (List V)) (m : Nat) (w : World) (hk : KReads w w.heap.size A cs) (hr : LReads0 w w.heap.size B L) (hL : InL L) (hcs : cs.length ≤ 1000000) (hm : m ≤ 1000000) :
    Calls Tryz.prog 84 #[.slice A cs.length c, .slice B L.length c', .int .i64 (m : Nat)] w fun e w' => ∃ v vs R, e = .returned v ∧ R.length = min m L.length ∧ (∀ r ∈ R, TameRw cs cs.length r) ∧ w'.ownsRow w.heap.size 34 1 v R.length vs ∧ OwnRs w' w.heap.size vs R ∧ Apart v vs ∧ Below w.heap.size w w' := by
  have HR := Lib.hid (And.intro hk (And.intro hr hL))
  have hLl := hL.1
  unfold maxLen at hLl
  obtain ⟨i0, hi, hz0, hz1, hz2⟩ := info_parts infoR
  obtain ⟨j0, hj, jz0, jz1, jz2⟩ := info_parts infoV
  clear hk hr hL
  go_enter Tryz.func84, Tryz.ntmps84
  go_wp2_with fail
  go_loopw [7, 8] (fun v i wr => ∃ R : List (List V), R.length ≤ L.length ∧ R.length ≤ m ∧ i = .int .i64 (R.length : Nat) ∧ Hid (∃ vs, wr.ownsRow w.heap.size 34 1 v R.length vs ∧ OwnRs wr w.heap.size vs R ∧ Apart v vs ∧ Below w.heap.size w wr) ∧ Hid (∀ r ∈ R, TameRw cs cs.length r)) (fun _ i _ => L.length - (intOf i).toNat)
  case atStart => exact ⟨[], Nat.zero_le _, Nat.zero_le _, rfl, ⟨[], ⟨rfl, .inl ⟨rfl, rfl⟩⟩, OwnRs.nil _ _, fun x hx => (by cases hx), Below.refl _ _⟩, fun r hr => by cases hr⟩
  case round =>
    obtain ⟨R, hk, hkm, rfl, HI, HT⟩ := hrel
    generalize hRn : R.length = n at *
    by_cases hlt : n < L.length
    · by_cases hlm : n < m
      · obtain ⟨vs, hown, hrs, hap, hbw⟩ := HI.out
        have HQ := Lib.hid (HR.out.2.1.below hbw hbw.size)
        have HK := Lib.hid (HR.out.1.below hbw hbw.size)
        have HV := Lib.hid (HR.out.2.2.2 L[n] (List.getElem_mem hlt))
        have HO := Lib.hid (And.intro hown (And.intro hrs (And.intro hap hbw)))
        clear hown hrs hap hbw
        generalize wr = w1 at *
        go_wp2_with fail
        go_loopw [9, 10] (fun v i wi => ∃ r : List V, r.length ≤ cs.length ∧ i = .int .i64 (r.length : Nat) ∧ Hid (TameRw cs r.length r) ∧ Hid (wi.ownsRow w1.heap.size 78 3 v r.length (vcells r)) ∧ Hid (Below w1.heap.size w1 wi)) (fun _ i _ => cs.length - (intOf i).toNat)
        case atStart => exact ⟨[], Nat.zero_le _, rfl, ⟨rfl, fun i v q h => by cases h⟩, ⟨rfl, .inl ⟨rfl, rfl⟩⟩, Below.refl _ _⟩
        case round =>
          obtain ⟨r, hrk, rfl, HTr, HOr, HBr⟩ := hrel
          generalize hrn : r.length = k at *
          by_cases hkc : k < cs.length
          · obtain ⟨b, o, Ar, cr, rfl, hblk, hc, hv⟩ := (HQ.out.below HBr.out HBr.out.size).at_ hlt
            have hnL : (n : Int) < (L.length : Int) := by omega
            by_cases hne : L[n].length = 0
            · have hl0 : ((L[n].length : Nat) : Int) = 0 := by omega
              have hl1 : decide ((0 : Int) < (L[n].length : Int)) = false := by simp [hl0]
              have HZ : Hid (I64 0 ∧ (⟨#[]⟩ : ByteArray).size ≤ maxLen) := Lib.hid ⟨⟨by decide, by decide⟩, Nat.zero_le _⟩
              clear hv
              generalize L[n].length = len at *
              subst hne
              go_wp2_with fail
              have HB5 : Hid (Below wr.heap.size wr (wr.alloc (.cells #[.int .i64 0, .int .i64 0, .string ⟨#[]⟩] 78))) := Lib.hid (al (Below.refl _ _) _)
              have HV5 : Hid (Blk (wr.alloc (.cells #[.int .i64 0, .int .i64 0, .string ⟨#[]⟩] 78)) wr.heap.size 78 #[.int .i64 0, .int .i64 0, .string ⟨#[]⟩]) := Lib.hid (Blk.new wr _ _)
              clear hc
              generalize wr.alloc (.cells #[.int .i64 0, .int .i64 0, .string ⟨#[]⟩] 78) = w5 at *

              obtain ⟨bk, ok, rfl, hbk, k0, k1⟩ := ((HK.out.below HBr.out HBr.out.size).below HB5.out HB5.out.size).at_ hkc
              have hkC : (k : Int) < (cs.length : Int) := by omega
              have HKc := Lib.hid (And.intro hbk (And.intro k0 k1))
              clear hbk k0 k1
              go_wp2_with fail
              refine wp_region_grow (W := w5) 8 [[], [], [], [], [2, 3], [4], [1, 5], [6]] [] (dTam u9 (0) (0) (⟨#[]⟩) (some ⟨bk, ok, none⟩) cs.length c k ⟨bk, ok + k * 2, none⟩ cs[k] w5.heap.size) (by kernel_rfl) (by kernel_rfl) dTam_below ⟨?o0, ?o1, ?o2, ?o3, ?o4, ?o5, ?o6, ?o7, trivial⟩ ?fin
              case o0 =>
                refine growOne_of (pre := []) rfl ?_
                simp only [fillL, Act.put]
                intro f w' hb hp
                clear hp
                go_wp2_with fail
                exact ⟨Below.refl _ _, rfl, fun h => by simp at h⟩
              case o1 =>
                refine growOne_of (pre := []) rfl ?_
                simp only [fillL, Act.put]
                intro f w' hb hp
                clear hp
                obtain ⟨⟨e0, e1, e2⟩, g0, g1, g2⟩ := (HV5.out.below hb HV5.out.lt).three
                clear hb g0 g1 g2
                go_wp2_with fail
                exact ⟨Below.refl _ _, rfl, fun h => by simp at h⟩
              case o2 =>
                refine growOne_of (pre := []) rfl ?_
                simp only [fillL, Act.put]
                intro f w' hb hp
                clear hp
                go_wp2_with fail
                exact ⟨Below.refl _ _, rfl, fun h => by simp at h⟩
              case o3 =>
                refine growOne_of (pre := []) rfl ?_
                simp only [fillL, Act.put]
                intro f w' hb hp
                clear hp
                go_wp2_with fail
                exact ⟨Below.refl _ _, rfl, fun h => by simp at h⟩
              case o4 =>
                refine growOne_of (pre := [2, 3]) rfl ?_
                simp only [fillL, Region.dstOf, List.getElem?_toArray, List.getElem?_cons_zero, List.getElem?_cons_succ, Option.bind_some, Act.put]
                intro f w' hb hp
                have h2 : f 2 = .slice (some ⟨bk, ok, none⟩) cs.length c := hp 2 (by decide)
                have h3 : f 3 = .int .i64 (k : Nat) := hp 3 (by decide)
                clear hp
                rw [h2, h3]
                clear h2 h3
                go_wp2_with fail
                exact ⟨Below.refl _ _, rfl, fun h => by simp at h⟩
              case o5 =>
                refine growOne_of (pre := [4]) rfl ?_
                simp only [fillL, Region.dstOf, List.getElem?_toArray, List.getElem?_cons_zero, List.getElem?_cons_succ, Option.bind_some, Act.put]
                intro f w' hb hp
                have h0 : f 4 = .pointer (some ⟨bk, ok + k * 2, none⟩) := hp 4 (by decide)
                have k0 := (hb.cell (p := ⟨bk, _, none⟩) HKc.out.1).trans HKc.out.2.1
                have k1 := (hb.cell (p := ⟨bk, _, none⟩) HKc.out.1).trans HKc.out.2.2
                clear hp hb
                rw [h0]
                clear h0
                go_wp2_with fail
                exact ⟨Below.refl _ _, rfl, fun h => by simp at h⟩
              case o6 =>
                refine growOne_of (pre := [1, 5]) rfl ?_
                simp only [fillL, Region.dstOf, List.getElem?_toArray, List.getElem?_cons_zero, List.getElem?_cons_succ, Option.bind_some, Act.put]
                intro f w' hb hp
                have h0 : f 1 = .agg #[.int .i64 (0), .int .i64 (0), .string (⟨#[]⟩)] := hp 1 (by decide)
                have h1 : f 5 = .agg #[.int .i64 cs[k].1, .bool cs[k].2] := hp 5 (by decide)
                clear hp hb
                rw [h0, h1]
                clear h0 h1
                go_wp2_with fail
                refine (TameAs_any (0) (0) (⟨#[]⟩) cs[k] w' HZ.out.1 HZ.out.2).mono ?_
                rintro e w7 ⟨y, rfl, hy, hb7⟩
                have HO : Hid (growPost (dTam u9 (0) (0) (⟨#[]⟩) (some ⟨bk, ok, none⟩) cs.length c k ⟨bk, ok + k * 2, none⟩ cs[k] w5.heap.size) [] 6 w' w7 (.agg #[.int .i64 y.k, .int .i64 y.n, .string y.s])) := ⟨hb7, ⟨y, rfl, hy⟩, fun h => by simp at h⟩
                clear hb7 hy
                go_wp2_with fail
                exact HO.out
              case o7 =>
                refine growOne_of (pre := [6]) rfl ?_
                simp only [fillL, Region.dstOf, List.getElem?_toArray, List.getElem?_cons_zero, List.getElem?_cons_succ, Option.bind_some, Act.put]
                intro f w' hb hp
                obtain ⟨y, h0, hy⟩ : ∃ y : V, f 6 = .agg #[.int .i64 y.k, .int .i64 y.n, .string y.s] ∧ TameV cs[k] y := hp 6 (by decide)
                clear hp
                rw [h0]
                have HY := Lib.hid (And.intro hy hb)
                clear h0 hy hb
                go_wp2_with fail
                exact ⟨al (Below.refl _ _) _, ⟨w'.heap.size, y, rfl, HY.out.2.size, Blk.new _ _ _, HY.out.1⟩, fun h => by simp at h⟩
              case fin =>
                intro f w6 hb hd _
                have e0 : f 0 = u9 := hd 0 (by decide)
                have e1 : f 1 = .agg #[.int .i64 (0), .int .i64 (0), .string (⟨#[]⟩)] := hd 1 (by decide)
                have e2 : f 2 = .slice (some ⟨bk, ok, none⟩) cs.length c := hd 2 (by decide)
                have e3 : f 3 = .int .i64 (k : Nat) := hd 3 (by decide)
                have e4 : f 4 = .pointer (some ⟨bk, ok + k * 2, none⟩) := hd 4 (by decide)
                have e5 : f 5 = .agg #[.int .i64 cs[k].1, .bool cs[k].2] := hd 5 (by decide)
                obtain ⟨y', e6, -⟩ : ∃ y : V, f 6 = .agg #[.int .i64 y.k, .int .i64 y.n, .string y.s] ∧ TameV cs[k] y := hd 6 (by decide)
                obtain ⟨gy, y, e7, hgy, hyb, hy⟩ : ∃ (g : Nat) (y : V), f 7 = .slice (some ⟨g, 0, none⟩) 1 1 ∧ w5.heap.size ≤ g ∧ Blk w6 g 78 #[.int .i64 y.k, .int .i64 y.n, .string y.s] ∧ TameV cs[k] y := hd 7 (by decide)
                clear hd
                rw [show List.range 8 = [0, 1, 2, 3, 4, 5, 6, 7] from rfl]
                simp only [fillL, Region.dstOf, List.getElem?_toArray, List.getElem?_cons_zero, List.getElem?_cons_succ, Option.bind_some, Act.put]
                rw [e0, e1, e2, e3, e4, e5, e6, e7]
                have HB7 := Lib.hid (thn HB5.out hb)
                have HT7 : Hid (TameRw cs (k + 1) (r ++ [y])) := Lib.hid (HTr.out.snoc (List.getElem?_eq_getElem hkc) hy)
                have HY := Lib.hid (And.intro hgy hyb)
                clear e0 e1 e2 e3 e4 e5 e6 e7 hb hgy hyb hy
                go_frame
                refine wpList_append_any _ rfl (.tmp 60) (.tmp 67) 34 rfl w1.heap.size 78 j0 (.agg #[.int .i64 0, .int .i64 0, .string ⟨#[]⟩]) 3 32 Tryz.underlying34 hj jz0 jz1 jz2 rfl (by decide) u9 k (vcells r) rfl (own_below HOr.out HB7.out) (gy + 1) _ 1 1 (vcells [y]) rfl ?c0 ?c1 ?c2 ?c3 ?c4 ?_
                case c0 => exact (VReads.one HY.out.2 (Nat.lt_succ_self _)).reads
                case c1 => exact vcells_one _
                case c2 => unfold maxLen; omega
                case c3 => omega
                case c4 => have := HB7.out.size; have := HBr.out.size; have := HY.out.2.lt; have := HY.out.1; have := HB5.out.size; simp <;> omega
                intro v' w8 hown8 hgrow8 _
                have HO8 : Hid (w8.ownsRow w1.heap.size 78 3 v' (k + 1) (vcells (r ++ [y]))) := by
                  rw [vcells_append]; exact hown8
                have HB8 : Hid (Below w1.heap.size w1 w8) := Lib.hid ((thn HBr.out HB7.out).grown hgrow8 (by have := HB7.out.size; have := HBr.out.size; simp <;> omega) (own_base HOr.out))
                have hlen8 : (r ++ [y]).length = k + 1 := by rw [List.length_append, hrn]; rfl
                clear hown8 hgrow8
                go_wp2_with fail
                go_roundw
                case rel => exact ⟨r ++ [y], by omega, by rw [hlen8]; go_num, by rw [hlen8]; exact HT7, by rw [hlen8]; exact HO8, HB8⟩
                case measure => simp [intOf]; omega
            · obtain ⟨b2, o2, rfl, hblk2, a0, a1, a2⟩ := hv.at_ (Nat.mod_lt k (Nat.pos_of_ne_zero hne))
              have hrem : ((k : Int)).tmod (L[n].length : Int) = ((k % L[n].length : Nat) : Int) := rfl
              have hp1 : k % L[n].length < L[n].length := Nat.mod_lt k (Nat.pos_of_ne_zero hne)
              have HX := Lib.hid (HV.out.2 _ (List.getElem_mem hp1))
              generalize L[n][k % L[n].length]'(Nat.mod_lt k (Nat.pos_of_ne_zero hne)) = x at *
              generalize k % L[n].length = p at *
              generalize L[n].length = len at *
              have hlz : ¬ (len : Int) = 0 := by omega
              generalize hdd : ((k : Int)).tdiv (len : Int) = d at *
              have hlp : (0 : Int) < (len : Int) := by omega
              have HZ : Hid (I64 (wrap64 (x.n + wrap64 d)) ∧ x.s.size ≤ maxLen) := Lib.hid ⟨wrapI _, HX.out.1⟩
              go_wp2_with fail
              have HB2 : Hid (Below wr.heap.size wr (wr.alloc (.cells #[.int .i64 0, .int .i64 0, .string ⟨#[]⟩] 78))) := Lib.hid (al (Below.refl _ _) _)
              have HV2 : Hid (Blk (wr.alloc (.cells #[.int .i64 0, .int .i64 0, .string ⟨#[]⟩] 78)) wr.heap.size 78 #[.int .i64 0, .int .i64 0, .string ⟨#[]⟩]) := Lib.hid (Blk.new wr _ _)
              have HC : Hid (wr.cell? ⟨b, o + n, none⟩ = some (.slice (some ⟨b2, o2, none⟩) len cr)) := Lib.hid hc
              have d0 := (HB2.out.cell (p := ⟨b, _, none⟩) hblk).trans hc
              have d1 := (HB2.out.cell (p := ⟨b2, _, none⟩) hblk2).trans a0
              have d2 := (HB2.out.cell (p := ⟨b2, _, none⟩) hblk2).trans a1
              have d3 := (HB2.out.cell (p := ⟨b2, _, none⟩) hblk2).trans a2
              clear hc a0 a1 a2
              generalize wr.alloc (.cells #[.int .i64 0, .int .i64 0, .string ⟨#[]⟩] 78) = w2 at *
              go_still_tail 13, (by kernel_rfl)
              change wpList _ _ _ _ _ w2.drew
              have HB3 : Hid (Below wr.heap.size wr w2.drew) := Lib.hid HB2.out.drew
              have HV3 : Hid (Blk w2.drew wr.heap.size 78 #[.int .i64 0, .int .i64 0, .string ⟨#[]⟩]) := HV2
              obtain ⟨⟨e0, e1, e2⟩, g0, g1, g2⟩ := HV3.out.three
              clear d0 d1 d2 d3 HB2 HV2
              generalize w2.drew = w3 at *
              go_wp2_with fail
              have HB4 : Hid (Below wr.heap.size wr (((w3.setCell ⟨wr.heap.size, 0, none⟩ (.int .i64 x.k)).setCell ⟨wr.heap.size, 1, none⟩ (.int .i64 x.n)).setCell ⟨wr.heap.size, 2, none⟩ (.string x.s))) := Lib.hid (st3 HB3.out (Nat.le_refl _) _ _ _)
              have HV4 : Hid (Blk (((w3.setCell ⟨wr.heap.size, 0, none⟩ (.int .i64 x.k)).setCell ⟨wr.heap.size, 1, none⟩ (.int .i64 x.n)).setCell ⟨wr.heap.size, 2, none⟩ (.string x.s)) wr.heap.size 78 #[.int .i64 x.k, .int .i64 x.n, .string x.s]) := Lib.hid (HV3.out.three_set _ _ _)
              clear e0 e1 e2 g0 g1 g2 HB3 HV3
              generalize (((w3.setCell ⟨wr.heap.size, 0, none⟩ (.int .i64 x.k)).setCell ⟨wr.heap.size, 1, none⟩ (.int .i64 x.n)).setCell ⟨wr.heap.size, 2, none⟩ (.string x.s)) = w4 at *
              have d0 := (HB4.out.cell (p := ⟨b, _, none⟩) hblk).trans HC.out
              obtain ⟨⟨e0, e1, e2⟩, g0, g1, g2⟩ := HV4.out.three
              go_still_tail 11, (by kernel_rfl)
              change wpList _ _ _ _ _ w4.drew
              have HB4' : Hid (Below wr.heap.size wr w4.drew) := Lib.hid HB4.out.drew
              have HV4' : Hid (Blk w4.drew wr.heap.size 78 #[.int .i64 x.k, .int .i64 x.n, .string x.s]) := HV4
              clear d0 e0 e1 e2 g0 g1 g2 HB4 HV4 HC
              generalize w4.drew = w4 at *
              obtain ⟨⟨e0, e1, e2⟩, g0, g1, g2⟩ := HV4'.out.three
              go_wp2_with fail
              have HB5 : Hid (Below wr.heap.size wr (w4.setCell ⟨wr.heap.size, 1, none⟩ (.int .i64 (wrap64 (x.n + wrap64 d))))) := Lib.hid (HB4'.out.setCell (Nat.le_refl _) _)
              have HV5 : Hid (Blk (w4.setCell ⟨wr.heap.size, 1, none⟩ (.int .i64 (wrap64 (x.n + wrap64 d)))) wr.heap.size 78 #[.int .i64 x.k, .int .i64 (wrap64 (x.n + wrap64 d)), .string x.s]) := Lib.hid (by simpa using HV4'.out.set_ 1 (.int .i64 (wrap64 (x.n + wrap64 d))))
              clear e0 e1 e2 g0 g1 g2 HB4' HV4'
              generalize w4.setCell ⟨wr.heap.size, 1, none⟩ (.int .i64 (wrap64 (x.n + wrap64 d))) = w5 at *
              generalize wrap64 (x.n + wrap64 d) = z at *

              obtain ⟨bk, ok, rfl, hbk, k0, k1⟩ := ((HK.out.below HBr.out HBr.out.size).below HB5.out HB5.out.size).at_ hkc
              have hkC : (k : Int) < (cs.length : Int) := by omega
              have HKc := Lib.hid (And.intro hbk (And.intro k0 k1))
              clear hbk k0 k1
              go_wp2_with fail
              generalize IntKind.i64.wrap (x.n + IntKind.i64.wrap d) = z1
              generalize IntKind.i64.wrap d = d1
              refine wp_region_grow (W := w5) 8 [[], [], [], [], [2, 3], [4], [1, 5], [6]] [] (dTam u9 (x.k) (z) (x.s) (some ⟨bk, ok, none⟩) cs.length c k ⟨bk, ok + k * 2, none⟩ cs[k] w5.heap.size) (by kernel_rfl) (by kernel_rfl) dTam_below ⟨?o0, ?o1, ?o2, ?o3, ?o4, ?o5, ?o6, ?o7, trivial⟩ ?fin
              case o0 =>
                refine growOne_of (pre := []) rfl ?_
                simp only [fillL, Act.put]
                intro f w' hb hp
                clear hp
                go_wp2_with fail
                exact ⟨Below.refl _ _, rfl, fun h => by simp at h⟩
              case o1 =>
                refine growOne_of (pre := []) rfl ?_
                simp only [fillL, Act.put]
                intro f w' hb hp
                clear hp
                obtain ⟨⟨e0, e1, e2⟩, g0, g1, g2⟩ := (HV5.out.below hb HV5.out.lt).three
                clear hb g0 g1 g2
                go_wp2_with fail
                exact ⟨Below.refl _ _, rfl, fun h => by simp at h⟩
              case o2 =>
                refine growOne_of (pre := []) rfl ?_
                simp only [fillL, Act.put]
                intro f w' hb hp
                clear hp
                go_wp2_with fail
                exact ⟨Below.refl _ _, rfl, fun h => by simp at h⟩
              case o3 =>
                refine growOne_of (pre := []) rfl ?_
                simp only [fillL, Act.put]
                intro f w' hb hp
                clear hp
                go_wp2_with fail
                exact ⟨Below.refl _ _, rfl, fun h => by simp at h⟩
              case o4 =>
                refine growOne_of (pre := [2, 3]) rfl ?_
                simp only [fillL, Region.dstOf, List.getElem?_toArray, List.getElem?_cons_zero, List.getElem?_cons_succ, Option.bind_some, Act.put]
                intro f w' hb hp
                have h2 : f 2 = .slice (some ⟨bk, ok, none⟩) cs.length c := hp 2 (by decide)
                have h3 : f 3 = .int .i64 (k : Nat) := hp 3 (by decide)
                clear hp
                rw [h2, h3]
                clear h2 h3
                go_wp2_with fail
                exact ⟨Below.refl _ _, rfl, fun h => by simp at h⟩
              case o5 =>
                refine growOne_of (pre := [4]) rfl ?_
                simp only [fillL, Region.dstOf, List.getElem?_toArray, List.getElem?_cons_zero, List.getElem?_cons_succ, Option.bind_some, Act.put]
                intro f w' hb hp
                have h0 : f 4 = .pointer (some ⟨bk, ok + k * 2, none⟩) := hp 4 (by decide)
                have k0 := (hb.cell (p := ⟨bk, _, none⟩) HKc.out.1).trans HKc.out.2.1
                have k1 := (hb.cell (p := ⟨bk, _, none⟩) HKc.out.1).trans HKc.out.2.2
                clear hp hb
                rw [h0]
                clear h0
                go_wp2_with fail
                exact ⟨Below.refl _ _, rfl, fun h => by simp at h⟩
              case o6 =>
                refine growOne_of (pre := [1, 5]) rfl ?_
                simp only [fillL, Region.dstOf, List.getElem?_toArray, List.getElem?_cons_zero, List.getElem?_cons_succ, Option.bind_some, Act.put]
                intro f w' hb hp
                have h0 : f 1 = .agg #[.int .i64 (x.k), .int .i64 (z), .string (x.s)] := hp 1 (by decide)
                have h1 : f 5 = .agg #[.int .i64 cs[k].1, .bool cs[k].2] := hp 5 (by decide)
                clear hp hb
                rw [h0, h1]
                clear h0 h1
                go_wp2_with fail
                refine (TameAs_any (x.k) (z) (x.s) cs[k] w' HZ.out.1 HZ.out.2).mono ?_
                rintro e w7 ⟨y, rfl, hy, hb7⟩
                have HO : Hid (growPost (dTam u9 (x.k) (z) (x.s) (some ⟨bk, ok, none⟩) cs.length c k ⟨bk, ok + k * 2, none⟩ cs[k] w5.heap.size) [] 6 w' w7 (.agg #[.int .i64 y.k, .int .i64 y.n, .string y.s])) := ⟨hb7, ⟨y, rfl, hy⟩, fun h => by simp at h⟩
                clear hb7 hy
                go_wp2_with fail
                exact HO.out
              case o7 =>
                refine growOne_of (pre := [6]) rfl ?_
                simp only [fillL, Region.dstOf, List.getElem?_toArray, List.getElem?_cons_zero, List.getElem?_cons_succ, Option.bind_some, Act.put]
                intro f w' hb hp
                obtain ⟨y, h0, hy⟩ : ∃ y : V, f 6 = .agg #[.int .i64 y.k, .int .i64 y.n, .string y.s] ∧ TameV cs[k] y := hp 6 (by decide)
                clear hp
                rw [h0]
                have HY := Lib.hid (And.intro hy hb)
                clear h0 hy hb
                go_wp2_with fail
                exact ⟨al (Below.refl _ _) _, ⟨w'.heap.size, y, rfl, HY.out.2.size, Blk.new _ _ _, HY.out.1⟩, fun h => by simp at h⟩
              case fin =>
                intro f w6 hb hd _
                have e0 : f 0 = u9 := hd 0 (by decide)
                have e1 : f 1 = .agg #[.int .i64 (x.k), .int .i64 (z), .string (x.s)] := hd 1 (by decide)
                have e2 : f 2 = .slice (some ⟨bk, ok, none⟩) cs.length c := hd 2 (by decide)
                have e3 : f 3 = .int .i64 (k : Nat) := hd 3 (by decide)
                have e4 : f 4 = .pointer (some ⟨bk, ok + k * 2, none⟩) := hd 4 (by decide)
                have e5 : f 5 = .agg #[.int .i64 cs[k].1, .bool cs[k].2] := hd 5 (by decide)
                obtain ⟨y', e6, -⟩ : ∃ y : V, f 6 = .agg #[.int .i64 y.k, .int .i64 y.n, .string y.s] ∧ TameV cs[k] y := hd 6 (by decide)
                obtain ⟨gy, y, e7, hgy, hyb, hy⟩ : ∃ (g : Nat) (y : V), f 7 = .slice (some ⟨g, 0, none⟩) 1 1 ∧ w5.heap.size ≤ g ∧ Blk w6 g 78 #[.int .i64 y.k, .int .i64 y.n, .string y.s] ∧ TameV cs[k] y := hd 7 (by decide)
                clear hd
                rw [show List.range 8 = [0, 1, 2, 3, 4, 5, 6, 7] from rfl]
                simp only [fillL, Region.dstOf, List.getElem?_toArray, List.getElem?_cons_zero, List.getElem?_cons_succ, Option.bind_some, Act.put]
                rw [e0, e1, e2, e3, e4, e5, e6, e7]
                have HB7 := Lib.hid (thn HB5.out hb)
                have HT7 : Hid (TameRw cs (k + 1) (r ++ [y])) := Lib.hid (HTr.out.snoc (List.getElem?_eq_getElem hkc) hy)
                have HY := Lib.hid (And.intro hgy hyb)
                clear e0 e1 e2 e3 e4 e5 e6 e7 hb hgy hyb hy
                go_frame
                refine wpList_append_any _ rfl (.tmp 60) (.tmp 67) 34 rfl w1.heap.size 78 j0 (.agg #[.int .i64 0, .int .i64 0, .string ⟨#[]⟩]) 3 32 Tryz.underlying34 hj jz0 jz1 jz2 rfl (by decide) u9 k (vcells r) rfl (own_below HOr.out HB7.out) (gy + 1) _ 1 1 (vcells [y]) rfl ?c0 ?c1 ?c2 ?c3 ?c4 ?_
                case c0 => exact (VReads.one HY.out.2 (Nat.lt_succ_self _)).reads
                case c1 => exact vcells_one _
                case c2 => unfold maxLen; omega
                case c3 => omega
                case c4 => have := HB7.out.size; have := HBr.out.size; have := HY.out.2.lt; have := HY.out.1; have := HB5.out.size; simp <;> omega
                intro v' w8 hown8 hgrow8 _
                have HO8 : Hid (w8.ownsRow w1.heap.size 78 3 v' (k + 1) (vcells (r ++ [y]))) := by
                  rw [vcells_append]; exact hown8
                have HB8 : Hid (Below w1.heap.size w1 w8) := Lib.hid ((thn HBr.out HB7.out).grown hgrow8 (by have := HB7.out.size; have := HBr.out.size; simp <;> omega) (own_base HOr.out))
                have hlen8 : (r ++ [y]).length = k + 1 := by rw [List.length_append, hrn]; rfl
                clear hown8 hgrow8
                go_wp2_with fail
                go_roundw
                case rel => exact ⟨r ++ [y], by omega, by rw [hlen8]; go_num, by rw [hlen8]; exact HT7, by rw [hlen8]; exact HO8, HB8⟩
                case measure => simp [intOf]; omega
          · have hke : k = cs.length := by omega
            subst hke
            have HOk := Lib.hid (And.intro HOr.out HTr.out)
            obtain ⟨a9, c9, rfl⟩ := own_slice HOk.out.1
            have q1 := Blk.new wr 34 #[.slice a9 cs.length c9]
            have q2 := sread_one q1 (B := wr.heap.size + 1) (by omega)
            have H1 := Lib.hid (And.intro ((own_below HO.out.1 HBr.out).alloc (.cells #[.slice a9 cs.length c9] 34)) (And.intro q2 (And.intro HOk.out.1 (And.intro HBr.out HO.out.1.lt))))
            clear q1 q2
            go_wp2_with (at_builtin; refine wpList_append_any _ rfl (.tmp 69) (.tmp 71) 23 rfl w.heap.size 34 i0 (.slice none 0 0) 1 24 Tryz.underlying23 hi hz0 hz1 hz2 rfl (by decide) _ _ _ rfl H1.out.1 (wr.heap.size + 1) _ 1 1 [.slice a9 cs.length c9] rfl H1.out.2.1 ?c1 ?c2 ?c3 ?c4 ?_)
            case c1 => intro u hu; simp only [List.mem_cons, List.not_mem_nil, or_false] at hu; subst hu; rfl
            case c2 => unfold maxLen; omega
            case c3 => omega
            case c4 => have := HO.out.2.2.2.size; have := HBr.out.size; simp <;> omega
            intro v2 w2 hown2 hgr2 hu2
            have hlen2 : (R ++ [r]).length = n + 1 := by rw [List.length_append, hRn]; rfl
            have HN : Hid (∃ vs, w2.ownsRow w.heap.size 34 1 v2 (R ++ [r]).length vs ∧ OwnRs w2 w.heap.size vs (R ++ [r]) ∧ Apart v2 vs ∧ Below w.heap.size w w2) := by
              obtain ⟨x1, x2, x3, x4, x5⟩ := H1.out
              obtain ⟨y1, y2, y3, y4⟩ := HO.out
              have z0 := OwnRs.snoc (r := r) (y2.below x4) (show OwnR wr w.heap.size (.slice a9 cs.length c9) r by unfold OwnR; rw [hrn]; exact own_weaker x3 y4.size)
              have z1 := z0.below (al (Below.refl _ _) (.cells #[.slice a9 cs.length c9] 34))
              have z2 : Apart u7 (vs ++ [.slice a9 cs.length c9]) := fun x hx => by
                rcases List.mem_append.1 hx with h | h
                · exact y3 x h
                · simp only [List.mem_cons, List.not_mem_nil, or_false] at h
                  subst h
                  cases hb : Value.ownBlock (.slice a9 cs.length c9) with
                  | none => exact .inl rfl
                  | some g =>
                    refine .inr fun e => ?_
                    have := (x3.lt g hb).1
                    have := (x5 g e.symm).2
                    omega
              rw [hlen2]
              refine ⟨_, hown2, z1.kept z2 hgr2, Apart.app z1 z2 (n := wr.heap.size + 1) (by simp) hu2, ((thn y4 x4).alloc (by have := y4.size; have := x4.size; omega) _).grown hgr2 (by have := y4.size; have := x4.size; simp <;> omega) (own_base H1.out.1)⟩
            have HTn : Hid (∀ q ∈ R ++ [r], TameRw cs cs.length q) := Lib.hid fun q hq => by
              rcases List.mem_append.1 hq with h | h
              · exact HT.out q h
              · rw [List.mem_singleton.1 h]; exact HOk.out.2
            clear hown2 hgr2 hu2
            go_wp2_with fail
            go_roundw
            case rel => exact ⟨R ++ [r], by omega, by omega, by rw [hlen2]; go_num, HN, HTn⟩
            case measure => simp [intOf]; omega
      · have hme : n = m := by omega
        go_wp2_with fail
        go_ret
        obtain ⟨vs, h1, h2, h3, h4⟩ := HI.out
        exact ⟨u7, vs, R, rfl, by omega, HT.out, by rw [hRn]; exact h1, h2, h3, h4⟩
    · go_wp2_with fail
      go_ret
      obtain ⟨vs, h1, h2, h3, h4⟩ := HI.out
      exact ⟨u7, vs, R, rfl, by omega, HT.out, by rw [hRn]; exact h1, h2, h3, h4⟩
end Go.Proofs.YtapnnheggjahlaaGreatDoor
