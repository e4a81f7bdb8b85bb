/-
  Ck: CONTRACTS: rows.check: the error that the rows of a call have.
  Ck2: CONTRACT: rows.check: the error that the rows of a call have.
  Frm: COLUMNS: CheckCols, Check, the reference's Cols, Fits and AllFit; the law's CutCols.
  RwC: CONTRACT of rows.Check.
-/
import Derived.Test.YtdiehgfldndgbaaGreatDoorGA04
import Derived.Shelf.Abstract
import Derived.Test.YtdiehgfldndgbaaGreatDoorGA03
namespace Go.Proofs.YtdiehgfldndgbaaGreatDoor
open Go.RowKit

/-- whether one of a list is found -/
def FoundI (z : Int) (b : Bool) : Prop := (b = true ∧ 0 ≤ z ∧ z ≤ 9223372036854775807) ∨ (b = false ∧ z = -1)
theorem FoundI.bool {z : Int} {b : Bool} (h : FoundI z b) : decide (0 ≤ z) = b := by
  rcases h with ⟨rfl, h, _⟩ | ⟨rfl, rfl⟩
  · simpa using h
  · decide
theorem any_take_snoc {α : Type} {l : List α} {p : α → Bool} {k : Nat} (hk : k < l.length) : (l.take (k + 1)).any p = ((l.take k).any p || p l[k]) := by
  rw [List.take_succ_eq_append_getElem hk, List.any_append]; simp
theorem any_at {α : Type} {l : List α} {p : α → Bool} {k : Nat} (hk : k < l.length) (h : p l[k] = true) : l.any p = true := List.any_eq_true.2 ⟨_, List.getElem_mem hk, h⟩

set_option maxHeartbeats 1000000 in
theorem IndexFunc_rows (gf : FuncId) (p : List V → Bool) (A : Option Addr) (c : Nat) (L : List (List V)) (w : World) (hr : LReads w w.heap.size A L) (hn : L.length ≤ maxLen)
    (heg : ∀ args W, (callFunc gf args).run Tryz.prog W = .ok (.enter gf args) W)
    (hcall : ∀ w1, Below w.heap.size w w1 → ∀ r ∈ L, ∀ A c, Plain A → VReads w1 w1.heap.size A r → Calls Tryz.prog gf #[.slice A r.length c] w1 fun e w' => e = .returned (.bool (p r)) ∧ Below w1.heap.size w1 w') :
    Calls Tryz.prog 231 #[.slice A L.length c, .func (.func gf) #[] #[]] w fun e w' => ∃ z, e = .returned (.int .i64 z) ∧ FoundI z (L.any p) ∧ Below w.heap.size w w' := by
  unfold maxLen at hn
  have HR := Lib.hid hr
  have HC := Lib.hid hcall
  clear hr hcall
  go_enter Tryz.func231, Tryz.ntmps231
  go_wp2
  go_loopw [8] (fun i wr => ∃ k : Nat, k ≤ L.length ∧ i = .int .i64 k ∧ Hid ((L.take k).any p = false ∧ Below w.heap.size w wr)) (fun i _ => L.length - (intOf i).toNat)
  case atStart => exact ⟨0, Nat.zero_le _, rfl, by simp, Below.refl _ _⟩
  case round =>
    obtain ⟨k, hk, rfl, HI⟩ := hrel
    by_cases hlt : k < L.length
    · obtain ⟨b, o, Ar, cr, rfl, hblk, hcell, hpl, hv⟩ := (HR.out.below HI.out.2 HI.out.2.size).at_ hlt
      have HX := Lib.hid (HC.out wr HI.out.2 L[k] (List.getElem_mem hlt) Ar cr hpl hv)
      have HN := Lib.hid (fun h : p L[k] = false => (by rw [any_take_snoc hlt, HI.out.1, h]; rfl : (L.take (k + 1)).any p = false))
      have HY := Lib.hid (fun h : p L[k] = true => any_at hlt h)
      clear hpl hv
      go_wp2_with fail
      refine HX.out.mono ?_
      rintro e w1 ⟨rfl, hb1⟩
      have W1 := Lib.hid (thn HI.out.2 hb1)
      clear hb1 HX
      generalize p L[k] = q at *
      cases q
      · have HN2 := Lib.hid (HN.out rfl)
        clear HN HY
        go_wp2_with fail
        go_roundw
        case rel => exact ⟨k + 1, by omega, by go_num, HN2.out, W1.out⟩
        case measure => simp [intOf]; omega
      · have HY2 := Lib.hid (HY.out rfl)
        clear HN HY
        go_wp2_with fail
        go_ret
        exact ⟨_, rfl, .inl ⟨HY2.out, by omega, by omega⟩, W1.out⟩
    · have hkn : k = L.length := by omega
      subst hkn
      go_wp2_with fail
      go_ret
      exact ⟨_, rfl, .inr ⟨by have := HI.out.1; rwa [List.take_length] at this, rfl⟩, HI.out.2⟩
set_option maxHeartbeats 1000000 in
theorem ContainsFunc_rows (gf : FuncId) (p : List V → Bool) (A : Option Addr) (c : Nat) (L : List (List V)) (w : World) (hr : LReads w w.heap.size A L) (hn : L.length ≤ maxLen)
    (heg : ∀ args W, (callFunc gf args).run Tryz.prog W = .ok (.enter gf args) W)
    (hcall : ∀ w1, Below w.heap.size w w1 → ∀ r ∈ L, ∀ A c, Plain A → VReads w1 w1.heap.size A r → Calls Tryz.prog gf #[.slice A r.length c] w1 fun e w' => e = .returned (.bool (p r)) ∧ Below w1.heap.size w1 w') :
    Calls Tryz.prog 165 #[.slice A L.length c, .func (.func gf) #[] #[]] w fun e w' => e = .returned (.bool (L.any p)) ∧ Below w.heap.size w w' := by
  have HX := Lib.hid (IndexFunc_rows gf p A c L w hr hn heg hcall)
  clear hr hn heg hcall
  go_enter Tryz.func165, Tryz.ntmps165
  go_wp2_with fail
  refine HX.out.mono ?_
  rintro e w1 ⟨z, rfl, hz, hb1⟩
  have HZ := Lib.hid hz.bool
  clear hz HX
  go_wp2_with fail
  go_ret
  exact ⟨ret_bool HZ.out, hb1⟩

/-! values -/
set_option maxHeartbeats 1000000 in
theorem hasNone1_any (v : V) (w : World) (hs : v.s.size ≤ maxLen) :
    Calls Tryz.prog 232 #[.agg #[.int .i64 v.k, .int .i64 v.n, .string v.s]] w fun e w' => e = .returned (.bool (!v.ok)) ∧ Below w.heap.size w w' := by
  have HS := Lib.hid hs
  have HQ : Hid ((chk [⟨v.k, v.n, v.s⟩] != 0) = !v.ok) := by
    show (chk [⟨v.k, v.n, v.s⟩] != 0) = !v.ok
    have e : (⟨v.k, v.n, v.s⟩ : V) = v := rfl
    rw [e]
    by_cases h : v.ok = true
    · rw [chk_good (by simp) (by simp [h]), h]; rfl
    · rw [chk_bad (l := [v]) (k := 0) (by simp) (by simp) (by simpa using h), show v.ok = false by simpa using h]; rfl
  clear hs
  go_enter Tryz.func232, Tryz.ntmps232
  go_wp2_with fail
  refine (Check_any v.k v.n v.s _ HS.out).mono ?_
  rintro e w1 ⟨rfl, hb1⟩
  have W1 := Lib.hid (thn (al (Below.refl _ w) _) hb1)
  clear hb1
  generalize chk [⟨v.k, v.n, v.s⟩] = r at *
  go_wp2_with fail
  go_ret
  exact ⟨ret_bool HQ.out, W1.out⟩
set_option maxHeartbeats 1000000 in
theorem IndexFunc_vals (A : Option Addr) (c : Nat) (l : List V) (w : World) (hr : VReads w w.heap.size A l) (hf : VFit l) (hn : l.length ≤ maxLen) :
    Calls Tryz.prog 168 #[.slice A l.length c, .func (.func 232) #[] #[]] w fun e w' => ∃ z, e = .returned (.int .i64 z) ∧ FoundI z (l.any fun v => !v.ok) ∧ Below w.heap.size w w' := by
  unfold maxLen at hn
  have HR := Lib.hid hr
  have HF := Lib.hid hf
  clear hr hf
  go_enter Tryz.func168, Tryz.ntmps168
  go_wp2
  go_loopw [8] (fun i wr => ∃ k : Nat, k ≤ l.length ∧ i = .int .i64 k ∧ Hid ((l.take k).any (fun v => !v.ok) = false ∧ Below w.heap.size w wr)) (fun i _ => l.length - (intOf i).toNat)
  case atStart => exact ⟨0, Nat.zero_le _, rfl, by simp, Below.refl _ _⟩
  case round =>
    obtain ⟨k, hk, rfl, HI⟩ := hrel
    by_cases hlt : k < l.length
    · obtain ⟨b, o, rfl, hblk, c0, c1, c2⟩ := (HR.out.below HI.out.2 HI.out.2.size).at_ hlt
      have HX := Lib.hid (hasNone1_any l[k] wr (HF.out _ (List.getElem_mem hlt)))
      have HN := Lib.hid (fun h : (!l[k].ok) = false => (by rw [any_take_snoc hlt, HI.out.1, h]; rfl : (l.take (k + 1)).any (fun v => !v.ok) = false))
      have HY := Lib.hid (fun h : (!l[k].ok) = true => any_at (p := fun v => !v.ok) hlt h)
      go_wp2_with fail
      refine HX.out.mono ?_
      rintro e w1 ⟨rfl, hb1⟩
      have W1 := Lib.hid (thn HI.out.2 hb1)
      clear hb1 HX
      generalize (!l[k].ok) = q at *
      cases q
      · have HN2 := Lib.hid (HN.out rfl)
        clear HN HY
        go_wp2_with fail
        go_roundw
        case rel => exact ⟨k + 1, by omega, by go_num, HN2.out, W1.out⟩
        case measure => simp [intOf]; omega
      · have HY2 := Lib.hid (HY.out rfl)
        clear HN HY
        go_wp2_with fail
        go_ret
        exact ⟨_, rfl, .inl ⟨HY2.out, by omega, by omega⟩, W1.out⟩
    · have hkn : k = l.length := by omega
      subst hkn
      go_wp2_with fail
      go_ret
      exact ⟨_, rfl, .inr ⟨by have := HI.out.1; rwa [List.take_length] at this, rfl⟩, HI.out.2⟩
set_option maxHeartbeats 1000000 in
theorem hasNone_any (A : Option Addr) (c : Nat) (l : List V) (w : World) (hr : VReads w w.heap.size A l) (hf : VFit l) (hn : l.length ≤ maxLen) :
    Calls Tryz.prog 167 #[.slice A l.length c] w fun e w' => e = .returned (.bool (l.any fun v => !v.ok)) ∧ Below w.heap.size w w' := by
  have HX := Lib.hid (IndexFunc_vals A c l w hr hf hn)
  have HC : Hid (Calls Tryz.prog 121 #[.slice A l.length c, .func (.func 232) #[] #[]] w fun e w' => e = .returned (.bool (l.any fun v => !v.ok)) ∧ Below w.heap.size w w') := by
    show Calls _ _ _ _ _
    clear hr hf hn
    go_enter Tryz.func121, Tryz.ntmps121
    go_wp2_with fail
    refine HX.out.mono ?_
    rintro e w1 ⟨z, rfl, hz, hb1⟩
    have HZ := Lib.hid hz.bool
    clear hz HX
    go_wp2_with fail
    go_ret
    exact ⟨ret_bool HZ.out, hb1⟩
  clear hr hf hn HX
  go_enter Tryz.func167, Tryz.ntmps167
  go_wp2_with fail
  refine HC.out.mono ?_
  rintro e w1 ⟨rfl, hb1⟩
  go_wp2_with fail
  go_ret
  exact ⟨rfl, hb1⟩
theorem isTooWide_any (A : Option Addr) (c : Nat) (r : List V) (w : World) :
    Calls Tryz.prog 166 #[.slice A r.length c] w fun e w' => e = .returned (.bool (decide (16 < r.length))) ∧ w = w' := by
  go_enter Tryz.func166, Tryz.ntmps166
  go_wp2
  go_ret
  exact ⟨ret_bool (by rw [Bool.eq_iff_iff]; simp; omega), rfl⟩
end Go.Proofs.YtdiehgfldndgbaaGreatDoor
namespace Go.Proofs.YtdiehgfldndgbaaGreatDoor
open Go.RowKit

/-- too many rows, or one that is too long -/
def bigL (L : List (List V)) : Bool := decide (20000 < L.length) || L.any fun r => decide (16 < r.length)
/-- a value that is none -/
def badL (L : List (List V)) : Bool := L.any fun r => r.any fun v => !v.ok
/-- what check returns -/
def chkR (Ls : List (List (List V))) : Int := if Ls.any bigL then 2 else if Ls.any badL then 10 else 0
/-- lists of rows -/
def LLReads (w : World) (B : Nat) (A : Option Addr) (Ls : List (List (List V))) : Prop :=
  0 < Ls.length → ∃ b o, A = some ⟨b, o, none⟩ ∧ b < B ∧ ∀ (i : Nat) (L : List (List V)), Ls[i]? = some L → ∃ AL c, w.cell? ⟨b, o + i, none⟩ = some (.slice AL L.length c) ∧ LReads w B AL L
theorem LLReads.below {w w' : World} {B B' : Nat} {A : Option Addr} {Ls : List (List (List V))} (h : LLReads w B A Ls) (hb : Below B w w') (hB : B ≤ B') : LLReads w' B' A Ls := fun h0 => by
  obtain ⟨b, o, rfl, hblk, hc⟩ := h h0
  refine ⟨b, o, rfl, by omega, fun i L hi => ?_⟩
  obtain ⟨AL, c, h1, h2⟩ := hc i L hi
  exact ⟨AL, c, (hb.cell (p := ⟨b, _, none⟩) hblk).trans h1, h2.below hb hB⟩
theorem LLReads.at_ {w : World} {B : Nat} {A : Option Addr} {Ls : List (List (List V))} (h : LLReads w B A Ls) {i : Nat} (hi : i < Ls.length) : ∃ b o AL c, A = some ⟨b, o, none⟩ ∧ b < B ∧ w.cell? ⟨b, o + i, none⟩ = some (.slice AL Ls[i].length c) ∧ LReads w B AL Ls[i] := by
  obtain ⟨b, o, rfl, hblk, hc⟩ := h (by omega)
  obtain ⟨AL, c, h1, h2⟩ := hc i _ (List.getElem?_eq_getElem hi)
  exact ⟨b, o, AL, c, rfl, hblk, h1, h2⟩
/-- what may come in at all -/
def LFit (L : List (List V)) : Prop := L.length ≤ maxLen ∧ ∀ r ∈ L, r.length ≤ maxLen ∧ VFit r

set_option maxHeartbeats 2000000 in
theorem checkR_any (A : Option Addr) (c : Nat) (Ls : List (List (List V))) (w : World) (hr : LLReads w w.heap.size A Ls) (hf : ∀ L ∈ Ls, LFit L) (hn : Ls.length ≤ 1000) :
    Calls Tryz.prog 115 #[.slice A Ls.length c] w fun e w' => e = .returned (.int .i64 (chkR Ls)) ∧ Below w.heap.size w w' := by
  have HR := Lib.hid hr
  have HF := Lib.hid hf
  clear hr hf
  go_enter Tryz.func115, Tryz.ntmps115
  go_wp2
  go_loopw [9] (fun i wr => ∃ k : Nat, k ≤ Ls.length ∧ i = .int .i64 k ∧ Hid ((Ls.take k).any bigL = false ∧ Below w.heap.size w wr)) (fun i _ => Ls.length - (intOf i).toNat)
  case atStart => exact ⟨0, Nat.zero_le _, rfl, by simp, Below.refl _ _⟩
  case round =>
    obtain ⟨k, hk, rfl, HI⟩ := hrel
    by_cases hlt : k < Ls.length
    · obtain ⟨b, o, AL, cl, rfl, hblk, hcell, hl⟩ := (HR.out.below HI.out.2 HI.out.2.size).at_ hlt
      have hfit := HF.out Ls[k] (List.getElem_mem hlt)
      have HN := Lib.hid (fun h : bigL Ls[k] = false => (by rw [any_take_snoc hlt, HI.out.1, h]; rfl : (Ls.take (k + 1)).any bigL = false))
      have HY := Lib.hid (fun h : bigL Ls[k] = true => (by unfold chkR; rw [if_pos (any_at hlt h)] : chkR Ls = 2))
      by_cases h2 : 20000 < Ls[k].length
      · have hd : decide ((20000 : Int) < (Ls[k].length : Int)) = true := by simp; omega
        have HY2 := Lib.hid (HY.out (by unfold bigL; simp [h2]))
        clear HN HY hl hfit h2
        go_wp2_with fail
        go_ret
        exact ⟨ret_int HY2.out.symm, HI.out.2⟩
      · have hd : decide ((20000 : Int) < (Ls[k].length : Int)) = false := by simp; omega
        have HX := Lib.hid (ContainsFunc_rows 166 (fun r => decide (16 < r.length)) AL cl Ls[k] wr hl hfit.1 (enters_of Tryz.func166 (by kernel_rfl) rfl) (fun w1 _ r _ A c _ _ => (isTooWide_any A c r w1).mono fun _ _ ⟨h1, h2⟩ => ⟨h1, h2 ▸ Below.refl _ _⟩))
        have HE : Hid (bigL Ls[k] = Ls[k].any fun r => decide (16 < r.length)) := by show bigL _ = _; unfold bigL; simp [h2]
        clear hl hfit h2
        go_wp2_with fail
        refine HX.out.mono ?_
        rintro e w1 ⟨rfl, hb1⟩
        have W1 := Lib.hid (thn HI.out.2 hb1)
        rw [← HE.out]
        clear hb1 HX
        generalize bigL Ls[k] = q at *
        cases q
        · have HN2 := Lib.hid (HN.out rfl)
          clear HN HY HE
          go_wp2_with fail
          go_roundw
          case rel => exact ⟨k + 1, by omega, by go_num, HN2.out, W1.out⟩
          case measure => simp [intOf]; omega
        · have HY2 := Lib.hid (HY.out rfl)
          clear HN HY HE
          go_wp2_with fail
          go_ret
          exact ⟨ret_int HY2.out.symm, W1.out⟩
    · have hkn : k = Ls.length := by omega
      subst hkn
      have H1 : Hid (Ls.any bigL = false ∧ Below w.heap.size w wr) := by have := HI.out; rwa [List.take_length] at this
      clear HI
      go_wp2_with fail
      go_loopw [23] (fun i wr => ∃ k : Nat, k ≤ Ls.length ∧ i = .int .i64 k ∧ Hid ((Ls.take k).any badL = false ∧ Below w.heap.size w wr)) (fun i _ => Ls.length - (intOf i).toNat)
      case atStart => exact ⟨0, Nat.zero_le _, rfl, by simp, H1.out.2⟩
      case round =>
        obtain ⟨k, hk, rfl, HI⟩ := hrel
        by_cases hlt2 : k < Ls.length
        · obtain ⟨b, o, AL, cl, rfl, hblk, hcell, hl⟩ := (HR.out.below HI.out.2 HI.out.2.size).at_ hlt2
          have hfit := HF.out Ls[k] (List.getElem_mem hlt2)
          have HN := Lib.hid (fun h : badL Ls[k] = false => (by rw [any_take_snoc hlt2, HI.out.1, h]; rfl : (Ls.take (k + 1)).any badL = false))
          have HY := Lib.hid (fun h : badL Ls[k] = true => (by unfold chkR; rw [if_neg (by rw [H1.out.1]; decide), if_pos (any_at hlt2 h)] : chkR Ls = 10))
          have HX := Lib.hid (ContainsFunc_rows 167 (fun r => r.any fun v => !v.ok) AL cl Ls[k] _ hl hfit.1 (enters_of Tryz.func167 (by kernel_rfl) rfl) (fun w1 _ r hm A c _ hv => hasNone_any A c r w1 hv (hfit.2 r hm).2 (hfit.2 r hm).1))
          clear hl hfit
          go_wp2_with fail
          refine HX.out.mono ?_
          rintro e w1 ⟨rfl, hb1⟩
          have W1 := Lib.hid (thn HI.out.2 hb1)
          clear hb1 HX
          have HE : Hid ((Ls[k].any fun r => r.any fun v => !v.ok) = badL Ls[k]) := rfl
          rw [HE.out]
          generalize badL Ls[k] = q at *
          cases q
          · have HN2 := Lib.hid (HN.out rfl)
            clear HN HY HE
            go_wp2_with fail
            go_roundw
            case rel => exact ⟨k + 1, by omega, by go_num, HN2.out, W1.out⟩
            case measure => simp [intOf]; omega
          · have HY2 := Lib.hid (HY.out rfl)
            clear HN HY HE
            go_wp2_with fail
            go_ret
            exact ⟨ret_int HY2.out.symm, W1.out⟩
        · have hkn : k = Ls.length := by omega
          subst hkn
          have HE : Hid (chkR Ls = 0) := by
            show chkR Ls = 0
            have := HI.out.1
            rw [List.take_length] at this
            unfold chkR
            rw [if_neg (by rw [H1.out.1]; decide), if_neg (by rw [this]; decide)]
          go_wp2_with fail
          go_ret
          exact ⟨ret_int HE.out.symm, HI.out.2⟩
end Go.Proofs.YtdiehgfldndgbaaGreatDoor
namespace Go.Proofs.YtdiehgfldndgbaaGreatDoor
open Go.RowKit

/-- a column is a Kind and a truth -/
def okC (q : Int × Bool) : Bool := q.1 == 1 || q.1 == 2 || q.1 == 3
def colsE (cs : List (Int × Bool)) : Int := if 16 < cs.length then 2 else if cs = [] ∨ cs.any (fun q => !okC q) = true then 20 else 0
def fitB (v : V) (q : Int × Bool) : Bool := v.k == q.1 || (q.2 && v.k == 0)
def eqB (cs : List (Int × Bool)) (r : List V) : Bool := decide (r.length = cs.length) && (r.zip cs).all fun p => fitB p.1 p.2
def fitE (cs : List (Int × Bool)) (L : List (List V)) : Bool := L.all (eqB cs)

set_option maxHeartbeats 1000000 in
theorem hasNoKind_any (k : Int) (b : Bool) (w : World) :
    Calls Tryz.prog 130 #[.agg #[.int .i64 k, .bool b]] w fun e w' => e = .returned (.bool (!okC (k, b))) ∧ Below w.heap.size w w' := by
  by_cases h1 : k = 1
  · subst h1
    go_enter Tryz.func130, Tryz.ntmps130
    go_wp2
    go_ret
    exact ⟨rfl, al (Below.refl _ _) _⟩
  by_cases h2 : k = 2
  · subst h2
    go_enter Tryz.func130, Tryz.ntmps130
    go_wp2
    go_ret
    exact ⟨rfl, al (Below.refl _ _) _⟩
  by_cases h3 : k = 3
  · subst h3
    go_enter Tryz.func130, Tryz.ntmps130
    go_wp2
    go_ret
    exact ⟨rfl, al (Below.refl _ _) _⟩
  have HE : Hid (okC (k, b) = false) := by show _ = _; simp [okC, h1, h2, h3]
  have e1 : (k != 1) = true := by simp [h1]
  have e2 : (k != 2) = true := by simp [h2]
  have e3 : (k != 3) = true := by simp [h3]
  clear h1 h2 h3
  go_enter Tryz.func130, Tryz.ntmps130
  go_wp2
  go_ret
  exact ⟨by rw [HE.out]; rfl, al (Below.refl _ _) _⟩
set_option maxHeartbeats 1000000 in
theorem IndexFunc_cols (A : Option Addr) (c : Nat) (cs : List (Int × Bool)) (w : World) (hr : KReads w w.heap.size A cs) (hn : cs.length ≤ 1000000) :
    Calls Tryz.prog 199 #[.slice A cs.length c, .func (.func 130) #[] #[]] w fun e w' => ∃ z, e = .returned (.int .i64 z) ∧ FoundI z (cs.any fun q => !okC q) ∧ Below w.heap.size w w' := by
  have HR := Lib.hid hr
  clear hr
  go_enter Tryz.func199, Tryz.ntmps199
  go_wp2
  go_loopw [8] (fun i wr => ∃ k : Nat, k ≤ cs.length ∧ i = .int .i64 k ∧ Hid ((cs.take k).any (fun q => !okC q) = false ∧ Below w.heap.size w wr)) (fun i _ => cs.length - (intOf i).toNat)
  case atStart => exact ⟨0, Nat.zero_le _, rfl, by simp, Below.refl _ _⟩
  case round =>
    obtain ⟨k, hk, rfl, HI⟩ := hrel
    by_cases hlt : k < cs.length
    · obtain ⟨b, o, rfl, hblk, c0, c1⟩ := (HR.out.below HI.out.2 HI.out.2.size).at_ hlt
      have HX := Lib.hid (hasNoKind_any cs[k].1 cs[k].2 wr)
      have HN := Lib.hid (fun h : (!okC cs[k]) = false => (by rw [any_take_snoc hlt, HI.out.1, h]; rfl : (cs.take (k + 1)).any (fun q => !okC q) = false))
      have HY := Lib.hid (fun h : (!okC cs[k]) = true => any_at (p := fun q => !okC q) hlt h)
      go_wp2_with fail
      refine HX.out.mono ?_
      rintro e w1 ⟨rfl, hb1⟩
      have W1 := Lib.hid (thn HI.out.2 hb1)
      clear hb1 HX c0 c1
      have e9 : (!okC (cs[k].1, cs[k].2)) = !okC cs[k] := rfl
      rw [e9]
      clear e9
      generalize (!okC cs[k]) = q at *
      cases q
      · have HN2 := Lib.hid (HN.out rfl)
        clear HN HY
        go_wp2_with fail
        go_roundw
        case rel => exact ⟨k + 1, by omega, by go_num, HN2.out, W1.out⟩
        case measure => simp [intOf]; omega
      · have HY2 := Lib.hid (HY.out rfl)
        clear HN HY
        go_wp2_with fail
        go_ret
        exact ⟨_, rfl, .inl ⟨HY2.out, by omega, by omega⟩, W1.out⟩
    · have hkn : k = cs.length := by omega
      subst hkn
      go_wp2_with fail
      go_ret
      exact ⟨_, rfl, .inr ⟨by have := HI.out.1; rwa [List.take_length] at this, rfl⟩, HI.out.2⟩
set_option maxHeartbeats 1000000 in
theorem ContainsFunc_cols (A : Option Addr) (c : Nat) (cs : List (Int × Bool)) (w : World) (hr : KReads w w.heap.size A cs) (hn : cs.length ≤ 1000000) :
    Calls Tryz.prog 129 #[.slice A cs.length c, .func (.func 130) #[] #[]] w fun e w' => e = .returned (.bool (cs.any fun q => !okC q)) ∧ Below w.heap.size w w' := by
  have HX := Lib.hid (IndexFunc_cols A c cs w hr hn)
  clear hr
  go_enter Tryz.func129, Tryz.ntmps129
  go_wp2_with fail
  refine HX.out.mono ?_
  rintro e w1 ⟨z, rfl, hz, hb1⟩
  have HZ := Lib.hid hz.bool
  clear hz HX
  go_wp2_with fail
  go_ret
  exact ⟨ret_bool HZ.out, hb1⟩
set_option maxHeartbeats 1000000 in
theorem CheckCols_any (A : Option Addr) (c : Nat) (cs : List (Int × Bool)) (w : World) (hr : KReads w w.heap.size A cs) (hn : cs.length ≤ 1000000) :
    Calls Tryz.prog 80 #[.slice A cs.length c] w fun e w' => e = .returned (.int .i64 (colsE cs)) ∧ Below w.heap.size w w' := by
  have HX := Lib.hid (ContainsFunc_cols A c cs w hr hn)
  clear hr
  by_cases h1 : 16 < cs.length
  · have HE : Hid (colsE cs = 2) := if_pos h1
    go_enter Tryz.func80, Tryz.ntmps80
    go_wp2_with fail
    go_ret
    exact ⟨ret_int HE.out.symm, Below.refl _ _⟩
  · by_cases h2 : cs = []
    · subst h2
      go_enter Tryz.func80, Tryz.ntmps80
      go_wp2_with fail
      go_ret
      exact ⟨ret_int (by simp [colsE]), Below.refl _ _⟩
    · have h0 : 0 < cs.length := List.length_pos_iff.2 h2
      have h0b : ((cs.length : Int) == 0) = false := beq_eq_false_iff_ne.2 (by omega)
      have HE : Hid (colsE cs = if cs.any (fun q => !okC q) = true then 20 else 0) := by
        show _ = _
        unfold colsE
        rw [if_neg h1]
        simp only [h2, false_or]
      clear h2
      generalize cs.any (fun q => !okC q) = q at *
      go_enter Tryz.func80, Tryz.ntmps80
      go_wp2_with fail
      refine HX.out.mono ?_
      rintro e w1 ⟨rfl, hb⟩
      have HB := Lib.hid hb
      clear hb HX
      cases q
      · go_wp2_with fail
        go_ret
        exact ⟨ret_int (by rw [HE.out]; rfl), HB.out⟩
      · go_wp2_with fail
        go_ret
        exact ⟨ret_int (by rw [HE.out]; rfl), HB.out⟩
set_option maxHeartbeats 1000000 in
theorem fits_any (v : V) (q : Int × Bool) (w : World) :
    Calls Tryz.prog 117 #[.agg #[.int .i64 v.k, .int .i64 v.n, .string v.s], .agg #[.int .i64 q.1, .bool q.2]] w fun e w' => e = .returned (.bool (fitB v q)) ∧ Below w.heap.size w w' := by
  obtain ⟨k, n, s⟩ := v
  obtain ⟨m, b⟩ := q
  by_cases h1 : k = m
  · have HE : Hid (fitB ⟨k, n, s⟩ (m, b) = true) := by show _ = _; simp [fitB, h1]
    have e1 : (k == m) = true := by simp [h1]
    clear h1
    go_enter Tryz.func117, Tryz.ntmps117
    go_wp2
    go_ret
    exact ⟨by rw [HE.out]; rfl, al (al (Below.refl _ _) _) _⟩
  · have HE : Hid (fitB ⟨k, n, s⟩ (m, b) = (b && k == 0)) := by show _ = _; simp [fitB, h1]
    have e1 : (k == m) = false := by simp [h1]
    clear h1
    cases b
    · go_enter Tryz.func117, Tryz.ntmps117
      go_wp2
      go_ret
      exact ⟨by rw [HE.out]; rfl, al (al (Below.refl _ _) _) _⟩
    · generalize hq : (k == 0) = q at *
      go_enter Tryz.func117, Tryz.ntmps117
      go_wp2
      go_ret
      exact ⟨by rw [HE.out]; rfl, al (al (Below.refl _ _) _) _⟩
end Go.Proofs.YtdiehgfldndgbaaGreatDoor
namespace Go.Proofs.YtdiehgfldndgbaaGreatDoor
open Go.RowKit

theorem all_snoc2 {α : Type} {p : α → Bool} {l : List α} {k : Nat} (h : k < l.length) (h1 : (l.take k).all p = true) (h2 : p l[k] = true) : (l.take (k + 1)).all p = true := by
  rw [List.take_succ_eq_append_getElem h, List.all_append, h1]
  simp [h2]
theorem all_stop {α : Type} {p : α → Bool} {l : List α} {k : Nat} (h : k < l.length) (h2 : p l[k] = false) : l.all p = false := by
  rw [List.all_eq_false]
  exact ⟨l[k], List.getElem_mem h, by simp [h2]⟩
theorem zip_at {r : List V} {cs : List (Int × Bool)} {k : Nat} (h : k < r.length) (h' : k < cs.length) : (r.zip cs)[k]'(by simp; omega) = (r[k], cs[k]) := by simp
set_option maxHeartbeats 2000000 in
theorem EqualFunc_any (A A' : Option Addr) (c c' : Nat) (r : List V) (cs : List (Int × Bool)) (w : World) (hr : VReads w w.heap.size A r) (hk : KReads w w.heap.size A' cs) (hrl : r.length ≤ 1000000) (hcl : cs.length ≤ 1000000) :
    Calls Tryz.prog 116 #[.slice A r.length c, .slice A' cs.length c', .func (.func 117) #[] #[]] w fun e w' => e = .returned (.bool (eqB cs r)) ∧ Below w.heap.size w w' := by
  have hcl := Nat.le_trans hcl (Nat.le_refl _)
  have HA := Lib.hid (And.intro hr hk)
  clear hr hk
  by_cases hl : r.length = cs.length
  · have HE : Hid (eqB cs r = (r.zip cs).all fun p => fitB p.1 p.2) := by show _ = _; simp [eqB, hl]
    have hzl : (r.zip cs).length = r.length := by simp; omega
    have HZ := Lib.hid hzl
    have hle := Nat.le_of_eq hl
    have hge := Nat.le_of_eq hl.symm
    have hlb : ((r.length : Int) != (cs.length : Int)) = false := by simp [hl]
    clear hl hzl
    go_enter Tryz.func116, Tryz.ntmps116
    go_wp2_with fail
    go_loopw [17] (fun i wr => ∃ k : Nat, k ≤ r.length ∧ i = .int .i64 k ∧ Hid (((r.zip cs).take k).all (fun p => fitB p.1 p.2) = true ∧ Below w.heap.size w wr)) (fun i _ => r.length - (intOf i).toNat)
    case atStart => exact ⟨0, Nat.zero_le _, rfl, rfl, Below.refl _ _⟩
    case round =>
      obtain ⟨k, hk, rfl, HI⟩ := hrel
      by_cases hlt : k < r.length
      · have hlt2 : k < cs.length := by omega
        obtain ⟨b, o, rfl, hblk, c0, c1, c2⟩ := (HA.out.1.below HI.out.2 HI.out.2.size).at_ hlt
        obtain ⟨b2, o2, rfl, hblk2, d0, d1⟩ := (HA.out.2.below HI.out.2 HI.out.2.size).at_ hlt2
        have HN := Lib.hid (fun h : fitB r[k] cs[k] = true => all_snoc2 (p := fun p : V × (Int × Bool) => fitB p.1 p.2) (by rw [HZ.out]; exact hlt) HI.out.1 (by rw [zip_at hlt hlt2]; exact h))
        have HY : Hid (fitB r[k] cs[k] = false → (r.zip cs).all (fun p => fitB p.1 p.2) = false) := fun h => all_stop (k := k) (by rw [HZ.out]; exact hlt) (by rw [zip_at hlt hlt2]; exact h)
        have HX := Lib.hid (fits_any r[k] cs[k])
        have HB := Lib.hid HI.out.2
        clear HI
        generalize fitB r[k] cs[k] = q at *
        go_wp2_with fail
        refine (HX.out _).mono ?_
        rintro e w1 ⟨rfl, hb1⟩
        have W1 := Lib.hid (thn (al (al HB.out _) _) hb1)
        clear hb1 HX
        cases q
        · have HY2 := Lib.hid (HY.out rfl)
          clear HN HY
          go_wp2_with fail
          go_ret
          exact ⟨by rw [HE.out, HY2.out]; rfl, W1.out⟩
        · have HN2 := Lib.hid (HN.out rfl)
          clear HN HY
          go_wp2_with fail
          go_roundw
          case rel => exact ⟨k + 1, by omega, by go_num, HN2.out, W1.out⟩
          case measure => simp [intOf]; omega
      · have HN2 : Hid ((r.zip cs).all (fun p => fitB p.1 p.2) = true) := by
          have := HI.out.1
          rwa [List.take_of_length_le (by rw [HZ.out]; omega)] at this
        go_wp2_with fail
        go_ret
        exact ⟨by rw [HE.out, HN2.out]; rfl, HI.out.2⟩
  · have HE : Hid (eqB cs r = false) := by show _ = _; simp [eqB, hl]
    have hlb : ((r.length : Int) != (cs.length : Int)) = true := bne_iff_ne.2 (by omega)
    clear hl
    go_enter Tryz.func116, Tryz.ntmps116
    go_wp2_with fail
    go_ret
    exact ⟨by rw [HE.out]; rfl, Below.refl _ _⟩
theorem LLReads.one {w : World} {g : Nat} {T : TypeId} {A : Option Addr} {c : Nat} {L : List (List V)} (h : Blk w g T #[.slice A L.length c]) (h1 : LReads w w.heap.size A L) :
    LLReads w w.heap.size (some ⟨g, 0, none⟩) [L] := fun _ => ⟨g, 0, rfl, h.lt, fun i X hi => by
  match i, hi with
  | 0, hi => simp at hi; subst hi; exact ⟨A, c, h.cell 0, h1⟩
  | i + 1, hi => simp at hi⟩
/-- the error of Check -/
def fitsE (cs : List (Int × Bool)) (L : List (List V)) : Int := if 16 < cs.length then 2 else if chkR [L] ≠ 0 then chkR [L] else if colsE cs ≠ 0 then colsE cs else if fitE cs L then 0 else 20
set_option maxHeartbeats 2000000 in
theorem RowsCheck_any (A A' : Option Addr) (c c' : Nat) (cs : List (Int × Bool)) (L : List (List V)) (w : World) (hk : KReads w w.heap.size A cs) (hr : LReads w w.heap.size A' L) (hcl : cs.length ≤ 1000000) (hi : LFit L) (hll : L.length ≤ 1000000) (hrl : ∀ r ∈ L, r.length ≤ 1000000) :
    Calls Tryz.prog 76 #[.slice A cs.length c, .slice A' L.length c'] w fun e w' => e = .returned (.int .i64 (fitsE cs L)) ∧ Below w.heap.size w w' := by
  have HA := Lib.hid (And.intro hk (And.intro hr (And.intro hi hrl)))
  clear hk hr hi hrl
  by_cases h1 : 16 < cs.length
  · have HE : Hid (fitsE cs L = 2) := if_pos h1
    go_enter Tryz.func76, Tryz.ntmps76
    go_wp2_with fail
    go_ret
    exact ⟨ret_int HE.out.symm, Below.refl _ _⟩
  · have HE : Hid (fitsE cs L = if chkR [L] ≠ 0 then chkR [L] else if colsE cs ≠ 0 then colsE cs else if fitE cs L then 0 else 20) := if_neg h1
    go_enter Tryz.func76, Tryz.ntmps76
    go_wp2_with fail
    have q1 := Blk.new w 65 #[.slice A' L.length c']
    have q2 : Below w.heap.size w (w.alloc (.cells #[.slice A' L.length c'] 65)) := al (Below.refl _ _) _
    refine (checkR_any _ _ [L] _ (LLReads.one q1 (HA.out.2.1.below q2 q2.size)) (fun X hX => ?_) (by simp)).mono ?_
    · simp only [List.mem_cons, List.not_mem_nil, or_false] at hX
      subst hX
      exact HA.out.2.2.1
    rintro e w1 ⟨rfl, hb1⟩
    have W1 := Lib.hid (thn q2 hb1)
    clear q1 q2 hb1
    by_cases hz : chkR [L] = 0
    · have HE2 : Hid (fitsE cs L = if colsE cs ≠ 0 then colsE cs else if fitE cs L then 0 else 20) := by
        show _ = _
        rw [HE.out, if_neg (by simp [hz])]
      rw [hz]
      clear hz HE
      go_wp2_with fail
      refine (CheckCols_any A c cs w1 (HA.out.1.below W1.out W1.out.size) hcl).mono ?_
      rintro e w2 ⟨rfl, hb2⟩
      have W2 := Lib.hid (thn W1.out hb2)
      clear hb2
      by_cases hy : colsE cs = 0
      · have HE3 : Hid (fitsE cs L = if fitE cs L then 0 else 20) := by
          show _ = _
          rw [HE2.out, if_neg (by simp [hy])]
        rw [hy]
        clear hy HE2
        go_wp2_with fail
        go_loopw [25] (fun i wr => ∃ k : Nat, k ≤ L.length ∧ i = .int .i64 k ∧ Hid ((L.take k).all (eqB cs) = true ∧ Below w.heap.size w wr)) (fun i _ => L.length - (intOf i).toNat)
        case atStart => exact ⟨0, Nat.zero_le _, rfl, rfl, W2.out⟩
        case round =>
          obtain ⟨k, hk, rfl, HI⟩ := hrel
          by_cases hlt : k < L.length
          · obtain ⟨b, o, Ar, cr, rfl, hblk, hc, _, hv⟩ := (HA.out.2.1.below HI.out.2 HI.out.2.size).at_ hlt
            have HV := Lib.hid (And.intro hv (HA.out.2.2.2 L[k] (List.getElem_mem hlt)))
            have HN := Lib.hid (fun h : eqB cs L[k] = true => all_snoc2 hlt HI.out.1 h)
            have HY : Hid (eqB cs L[k] = false → fitE cs L = false) := fun h => all_stop hlt h
            clear hv
            go_wp2_with fail
            refine (EqualFunc_any Ar A cr c L[k] cs wr HV.out.1 (HA.out.1.below HI.out.2 HI.out.2.size) HV.out.2 hcl).mono ?_
            rintro e w3 ⟨rfl, hb3⟩
            have W3 := Lib.hid (thn HI.out.2 hb3)
            clear hb3 hc
            generalize eqB cs L[k] = q at *
            cases q
            · have HY2 := Lib.hid (HY.out rfl)
              clear HN HY
              go_wp2_with fail
              go_ret
              exact ⟨ret_int (by rw [HE3.out, HY2.out]; rfl), W3.out⟩
            · have HN2 := Lib.hid (HN.out rfl)
              clear HN HY
              go_wp2_with fail
              go_roundw
              case rel => exact ⟨k + 1, by omega, by go_num, HN2.out, W3.out⟩
              case measure => simp [intOf]; omega
          · have HN2 : Hid (fitE cs L = true) := by
              have := HI.out.1
              rwa [List.take_of_length_le (by omega)] at this
            go_wp2_with fail
            go_ret
            exact ⟨ret_int (by rw [HE3.out, HN2.out]; rfl), HI.out.2⟩
      · have HE3 : Hid (fitsE cs L = colsE cs) := by
          show _ = _
          rw [HE2.out, if_pos hy]
        have hyb : (colsE cs != 0) = true := by simp [hy]
        generalize colsE cs = q at *
        clear hy HE2
        go_wp2_with fail
        go_ret
        exact ⟨ret_int HE3.out.symm, W2.out⟩
    · have HE2 : Hid (fitsE cs L = chkR [L]) := by
        show _ = _
        rw [HE.out, if_pos hz]
      have hzb : (chkR [L] != 0) = true := by simp [hz]
      generalize chkR [L] = q at *
      clear hz HE
      go_wp2_with fail
      go_ret
      exact ⟨ret_int HE2.out.symm, W1.out⟩
end Go.Proofs.YtdiehgfldndgbaaGreatDoor
