/-
  Ck: CONTRACTS: rows.check: the error that the rows of a call have.
  Ck2: CONTRACT: rows.check: the error that the rows of a call have.
-/
import Derived.Test.YtapnnheggjahlaaGreatDoorGF
import Derived.Test.YtapnnheggjahlaaGreatDoorGC
namespace Go.Proofs.YtapnnheggjahlaaGreatDoor
open Go.RowKit

/-- whether one of a list is found -/
def FoundI (z : Int) (b : Bool) : Prop := (b = true ∧ 0 ≤ z ∧ z ≤ 9223372036854775807) ∨ (b = false ∧ z = -1)
theorem FoundI.bool {z : Int} {b : Bool} (h : FoundI z b) : decide (0 ≤ z) = b := by
  rcases h with ⟨rfl, h, _⟩ | ⟨rfl, rfl⟩
  · simpa using h
  · decide
theorem any_take_snoc {α : Type} {l : List α} {p : α → Bool} {k : Nat} (hk : k < l.length) : (l.take (k + 1)).any p = ((l.take k).any p || p l[k]) := by
  rw [List.take_succ_eq_append_getElem hk, List.any_append]; simp
theorem any_at {α : Type} {l : List α} {p : α → Bool} {k : Nat} (hk : k < l.length) (h : p l[k] = true) : l.any p = true := List.any_eq_true.2 ⟨_, List.getElem_mem hk, h⟩

set_option maxHeartbeats 1000000 in
theorem IndexFunc_rows (gf : FuncId) (p : List V → Bool) (A : Option Addr) (c : Nat) (L : List (List V)) (w : World) (hr : LReads w w.heap.size A L) (hn : L.length ≤ maxLen)
    (heg : ∀ args W, (callFunc gf args).run Tryz.prog W = .ok (.enter gf args) W)
    (hcall : ∀ w1, Below w.heap.size w w1 → ∀ r ∈ L, ∀ A c, Plain A → VReads w1 w1.heap.size A r → Calls Tryz.prog gf #[.slice A r.length c] w1 fun e w' => e = .returned (.bool (p r)) ∧ Below w1.heap.size w1 w') :
    Calls Tryz.prog 112 #[.slice A L.length c, .func (.func gf) #[] #[]] w fun e w' => ∃ z, e = .returned (.int .i64 z) ∧ FoundI z (L.any p) ∧ Below w.heap.size w w' := by
  unfold maxLen at hn
  have HR := Lib.hid hr
  have HC := Lib.hid hcall
  clear hr hcall
  go_enter Tryz.func112, Tryz.ntmps112
  go_wp2
  go_loopw [8] (fun i wr => ∃ k : Nat, k ≤ L.length ∧ i = .int .i64 k ∧ Hid ((L.take k).any p = false ∧ Below w.heap.size w wr)) (fun i _ => L.length - (intOf i).toNat)
  case atStart => exact ⟨0, Nat.zero_le _, rfl, by simp, Below.refl _ _⟩
  case round =>
    obtain ⟨k, hk, rfl, HI⟩ := hrel
    by_cases hlt : k < L.length
    · obtain ⟨b, o, Ar, cr, rfl, hblk, hcell, hpl, hv⟩ := (HR.out.below HI.out.2 HI.out.2.size).at_ hlt
      have HX := Lib.hid (HC.out wr HI.out.2 L[k] (List.getElem_mem hlt) Ar cr hpl hv)
      have HN := Lib.hid (fun h : p L[k] = false => (by rw [any_take_snoc hlt, HI.out.1, h]; rfl : (L.take (k + 1)).any p = false))
      have HY := Lib.hid (fun h : p L[k] = true => any_at hlt h)
      clear hpl hv
      go_wp2_with fail
      refine HX.out.mono ?_
      rintro e w1 ⟨rfl, hb1⟩
      have W1 := Lib.hid (thn HI.out.2 hb1)
      clear hb1 HX
      generalize p L[k] = q at *
      cases q
      · have HN2 := Lib.hid (HN.out rfl)
        clear HN HY
        go_wp2_with fail
        go_roundw
        case rel => exact ⟨k + 1, by omega, by go_num, HN2.out, W1.out⟩
        case measure => simp [intOf]; omega
      · have HY2 := Lib.hid (HY.out rfl)
        clear HN HY
        go_wp2_with fail
        go_ret
        exact ⟨_, rfl, .inl ⟨HY2.out, by omega, by omega⟩, W1.out⟩
    · have hkn : k = L.length := by omega
      subst hkn
      go_wp2_with fail
      go_ret
      exact ⟨_, rfl, .inr ⟨by have := HI.out.1; rwa [List.take_length] at this, rfl⟩, HI.out.2⟩
set_option maxHeartbeats 1000000 in
theorem ContainsFunc_rows (gf : FuncId) (p : List V → Bool) (A : Option Addr) (c : Nat) (L : List (List V)) (w : World) (hr : LReads w w.heap.size A L) (hn : L.length ≤ maxLen)
    (heg : ∀ args W, (callFunc gf args).run Tryz.prog W = .ok (.enter gf args) W)
    (hcall : ∀ w1, Below w.heap.size w w1 → ∀ r ∈ L, ∀ A c, Plain A → VReads w1 w1.heap.size A r → Calls Tryz.prog gf #[.slice A r.length c] w1 fun e w' => e = .returned (.bool (p r)) ∧ Below w1.heap.size w1 w') :
    Calls Tryz.prog 88 #[.slice A L.length c, .func (.func gf) #[] #[]] w fun e w' => e = .returned (.bool (L.any p)) ∧ Below w.heap.size w w' := by
  have HX := Lib.hid (IndexFunc_rows gf p A c L w hr hn heg hcall)
  clear hr hn heg hcall
  go_enter Tryz.func88, Tryz.ntmps88
  go_wp2_with fail
  refine HX.out.mono ?_
  rintro e w1 ⟨z, rfl, hz, hb1⟩
  have HZ := Lib.hid hz.bool
  clear hz HX
  go_wp2_with fail
  go_ret
  exact ⟨ret_bool HZ.out, hb1⟩

/-! values -/
set_option maxHeartbeats 1000000 in
theorem hasNone1_any (v : V) (w : World) (hs : v.s.size ≤ maxLen) :
    Calls Tryz.prog 114 #[.agg #[.int .i64 v.k, .int .i64 v.n, .string v.s]] w fun e w' => e = .returned (.bool (!v.ok)) ∧ Below w.heap.size w w' := by
  have HS := Lib.hid hs
  have HQ : Hid ((chk [⟨v.k, v.n, v.s⟩] != 0) = !v.ok) := by
    show (chk [⟨v.k, v.n, v.s⟩] != 0) = !v.ok
    have e : (⟨v.k, v.n, v.s⟩ : V) = v := rfl
    rw [e]
    by_cases h : v.ok = true
    · rw [chk_good (by simp) (by simp [h]), h]; rfl
    · rw [chk_bad (l := [v]) (k := 0) (by simp) (by simp) (by simpa using h), show v.ok = false by simpa using h]; rfl
  clear hs
  go_enter Tryz.func114, Tryz.ntmps114
  go_wp2_with fail
  refine (Check_any v.k v.n v.s _ HS.out).mono ?_
  rintro e w1 ⟨rfl, hb1⟩
  have W1 := Lib.hid (thn (al (Below.refl _ w) _) hb1)
  clear hb1
  generalize chk [⟨v.k, v.n, v.s⟩] = r at *
  go_wp2_with fail
  go_ret
  exact ⟨ret_bool HQ.out, W1.out⟩
set_option maxHeartbeats 1000000 in
theorem IndexFunc_vals (A : Option Addr) (c : Nat) (l : List V) (w : World) (hr : VReads w w.heap.size A l) (hf : VFit l) (hn : l.length ≤ maxLen) :
    Calls Tryz.prog 133 #[.slice A l.length c, .func (.func 114) #[] #[]] w fun e w' => ∃ z, e = .returned (.int .i64 z) ∧ FoundI z (l.any fun v => !v.ok) ∧ Below w.heap.size w w' := by
  unfold maxLen at hn
  have HR := Lib.hid hr
  have HF := Lib.hid hf
  clear hr hf
  go_enter Tryz.func133, Tryz.ntmps133
  go_wp2
  go_loopw [8] (fun i wr => ∃ k : Nat, k ≤ l.length ∧ i = .int .i64 k ∧ Hid ((l.take k).any (fun v => !v.ok) = false ∧ Below w.heap.size w wr)) (fun i _ => l.length - (intOf i).toNat)
  case atStart => exact ⟨0, Nat.zero_le _, rfl, by simp, Below.refl _ _⟩
  case round =>
    obtain ⟨k, hk, rfl, HI⟩ := hrel
    by_cases hlt : k < l.length
    · obtain ⟨b, o, rfl, hblk, c0, c1, c2⟩ := (HR.out.below HI.out.2 HI.out.2.size).at_ hlt
      have HX := Lib.hid (hasNone1_any l[k] wr (HF.out _ (List.getElem_mem hlt)))
      have HN := Lib.hid (fun h : (!l[k].ok) = false => (by rw [any_take_snoc hlt, HI.out.1, h]; rfl : (l.take (k + 1)).any (fun v => !v.ok) = false))
      have HY := Lib.hid (fun h : (!l[k].ok) = true => any_at (p := fun v => !v.ok) hlt h)
      go_wp2_with fail
      refine HX.out.mono ?_
      rintro e w1 ⟨rfl, hb1⟩
      have W1 := Lib.hid (thn HI.out.2 hb1)
      clear hb1 HX
      generalize (!l[k].ok) = q at *
      cases q
      · have HN2 := Lib.hid (HN.out rfl)
        clear HN HY
        go_wp2_with fail
        go_roundw
        case rel => exact ⟨k + 1, by omega, by go_num, HN2.out, W1.out⟩
        case measure => simp [intOf]; omega
      · have HY2 := Lib.hid (HY.out rfl)
        clear HN HY
        go_wp2_with fail
        go_ret
        exact ⟨_, rfl, .inl ⟨HY2.out, by omega, by omega⟩, W1.out⟩
    · have hkn : k = l.length := by omega
      subst hkn
      go_wp2_with fail
      go_ret
      exact ⟨_, rfl, .inr ⟨by have := HI.out.1; rwa [List.take_length] at this, rfl⟩, HI.out.2⟩
set_option maxHeartbeats 1000000 in
theorem hasNone_any (A : Option Addr) (c : Nat) (l : List V) (w : World) (hr : VReads w w.heap.size A l) (hf : VFit l) (hn : l.length ≤ maxLen) :
    Calls Tryz.prog 90 #[.slice A l.length c] w fun e w' => e = .returned (.bool (l.any fun v => !v.ok)) ∧ Below w.heap.size w w' := by
  have HX := Lib.hid (IndexFunc_vals A c l w hr hf hn)
  have HC : Hid (Calls Tryz.prog 113 #[.slice A l.length c, .func (.func 114) #[] #[]] w fun e w' => e = .returned (.bool (l.any fun v => !v.ok)) ∧ Below w.heap.size w w') := by
    show Calls _ _ _ _ _
    clear hr hf hn
    go_enter Tryz.func113, Tryz.ntmps113
    go_wp2_with fail
    refine HX.out.mono ?_
    rintro e w1 ⟨z, rfl, hz, hb1⟩
    have HZ := Lib.hid hz.bool
    clear hz HX
    go_wp2_with fail
    go_ret
    exact ⟨ret_bool HZ.out, hb1⟩
  clear hr hf hn HX
  go_enter Tryz.func90, Tryz.ntmps90
  go_wp2_with fail
  refine HC.out.mono ?_
  rintro e w1 ⟨rfl, hb1⟩
  go_wp2_with fail
  go_ret
  exact ⟨rfl, hb1⟩
theorem isTooWide_any (A : Option Addr) (c : Nat) (r : List V) (w : World) :
    Calls Tryz.prog 89 #[.slice A r.length c] w fun e w' => e = .returned (.bool (decide (16 < r.length))) ∧ w = w' := by
  go_enter Tryz.func89, Tryz.ntmps89
  go_wp2
  go_ret
  exact ⟨ret_bool (by rw [Bool.eq_iff_iff]; simp; omega), rfl⟩
end Go.Proofs.YtapnnheggjahlaaGreatDoor
namespace Go.Proofs.YtapnnheggjahlaaGreatDoor
open Go.RowKit

/-- too many rows, or one that is too long -/
def bigL (L : List (List V)) : Bool := decide (20000 < L.length) || L.any fun r => decide (16 < r.length)
/-- a value that is none -/
def badL (L : List (List V)) : Bool := L.any fun r => r.any fun v => !v.ok
/-- what check returns -/
def chkR (Ls : List (List (List V))) : Int := if Ls.any bigL then 2 else if Ls.any badL then 10 else 0
/-- lists of rows -/
def LLReads (w : World) (B : Nat) (A : Option Addr) (Ls : List (List (List V))) : Prop :=
  0 < Ls.length → ∃ b o, A = some ⟨b, o, none⟩ ∧ b < B ∧ ∀ (i : Nat) (L : List (List V)), Ls[i]? = some L → ∃ AL c, w.cell? ⟨b, o + i, none⟩ = some (.slice AL L.length c) ∧ LReads w B AL L
theorem LLReads.below {w w' : World} {B B' : Nat} {A : Option Addr} {Ls : List (List (List V))} (h : LLReads w B A Ls) (hb : Below B w w') (hB : B ≤ B') : LLReads w' B' A Ls := fun h0 => by
  obtain ⟨b, o, rfl, hblk, hc⟩ := h h0
  refine ⟨b, o, rfl, by omega, fun i L hi => ?_⟩
  obtain ⟨AL, c, h1, h2⟩ := hc i L hi
  exact ⟨AL, c, (hb.cell (p := ⟨b, _, none⟩) hblk).trans h1, h2.below hb hB⟩
theorem LLReads.at_ {w : World} {B : Nat} {A : Option Addr} {Ls : List (List (List V))} (h : LLReads w B A Ls) {i : Nat} (hi : i < Ls.length) : ∃ b o AL c, A = some ⟨b, o, none⟩ ∧ b < B ∧ w.cell? ⟨b, o + i, none⟩ = some (.slice AL Ls[i].length c) ∧ LReads w B AL Ls[i] := by
  obtain ⟨b, o, rfl, hblk, hc⟩ := h (by omega)
  obtain ⟨AL, c, h1, h2⟩ := hc i _ (List.getElem?_eq_getElem hi)
  exact ⟨b, o, AL, c, rfl, hblk, h1, h2⟩
/-- what may come in at all -/
def LFit (L : List (List V)) : Prop := L.length ≤ maxLen ∧ ∀ r ∈ L, r.length ≤ maxLen ∧ VFit r

set_option maxHeartbeats 2000000 in
theorem checkR_any (A : Option Addr) (c : Nat) (Ls : List (List (List V))) (w : World) (hr : LLReads w w.heap.size A Ls) (hf : ∀ L ∈ Ls, LFit L) (hn : Ls.length ≤ 1000) :
    Calls Tryz.prog 57 #[.slice A Ls.length c] w fun e w' => e = .returned (.int .i64 (chkR Ls)) ∧ Below w.heap.size w w' := by
  have HR := Lib.hid hr
  have HF := Lib.hid hf
  clear hr hf
  go_enter Tryz.func57, Tryz.ntmps57
  go_wp2
  go_loopw [9] (fun i wr => ∃ k : Nat, k ≤ Ls.length ∧ i = .int .i64 k ∧ Hid ((Ls.take k).any bigL = false ∧ Below w.heap.size w wr)) (fun i _ => Ls.length - (intOf i).toNat)
  case atStart => exact ⟨0, Nat.zero_le _, rfl, by simp, Below.refl _ _⟩
  case round =>
    obtain ⟨k, hk, rfl, HI⟩ := hrel
    by_cases hlt : k < Ls.length
    · obtain ⟨b, o, AL, cl, rfl, hblk, hcell, hl⟩ := (HR.out.below HI.out.2 HI.out.2.size).at_ hlt
      have hfit := HF.out Ls[k] (List.getElem_mem hlt)
      have HN := Lib.hid (fun h : bigL Ls[k] = false => (by rw [any_take_snoc hlt, HI.out.1, h]; rfl : (Ls.take (k + 1)).any bigL = false))
      have HY := Lib.hid (fun h : bigL Ls[k] = true => (by unfold chkR; rw [if_pos (any_at hlt h)] : chkR Ls = 2))
      by_cases h2 : 20000 < Ls[k].length
      · have hd : decide ((20000 : Int) < (Ls[k].length : Int)) = true := by simp; omega
        have HY2 := Lib.hid (HY.out (by unfold bigL; simp [h2]))
        clear HN HY hl hfit h2
        go_wp2_with fail
        go_ret
        exact ⟨ret_int HY2.out.symm, HI.out.2⟩
      · have hd : decide ((20000 : Int) < (Ls[k].length : Int)) = false := by simp; omega
        have HX := Lib.hid (ContainsFunc_rows 89 (fun r => decide (16 < r.length)) AL cl Ls[k] wr hl hfit.1 (enters_of Tryz.func89 (by kernel_rfl) rfl) (fun w1 _ r _ A c _ _ => (isTooWide_any A c r w1).mono fun _ _ ⟨h1, h2⟩ => ⟨h1, h2 ▸ Below.refl _ _⟩))
        have HE : Hid (bigL Ls[k] = Ls[k].any fun r => decide (16 < r.length)) := by show bigL _ = _; unfold bigL; simp [h2]
        clear hl hfit h2
        go_wp2_with fail
        refine HX.out.mono ?_
        rintro e w1 ⟨rfl, hb1⟩
        have W1 := Lib.hid (thn HI.out.2 hb1)
        rw [← HE.out]
        clear hb1 HX
        generalize bigL Ls[k] = q at *
        cases q
        · have HN2 := Lib.hid (HN.out rfl)
          clear HN HY HE
          go_wp2_with fail
          go_roundw
          case rel => exact ⟨k + 1, by omega, by go_num, HN2.out, W1.out⟩
          case measure => simp [intOf]; omega
        · have HY2 := Lib.hid (HY.out rfl)
          clear HN HY HE
          go_wp2_with fail
          go_ret
          exact ⟨ret_int HY2.out.symm, W1.out⟩
    · have hkn : k = Ls.length := by omega
      subst hkn
      have H1 : Hid (Ls.any bigL = false ∧ Below w.heap.size w wr) := by have := HI.out; rwa [List.take_length] at this
      clear HI
      go_wp2_with fail
      go_loopw [23] (fun i wr => ∃ k : Nat, k ≤ Ls.length ∧ i = .int .i64 k ∧ Hid ((Ls.take k).any badL = false ∧ Below w.heap.size w wr)) (fun i _ => Ls.length - (intOf i).toNat)
      case atStart => exact ⟨0, Nat.zero_le _, rfl, by simp, H1.out.2⟩
      case round =>
        obtain ⟨k, hk, rfl, HI⟩ := hrel
        by_cases hlt2 : k < Ls.length
        · obtain ⟨b, o, AL, cl, rfl, hblk, hcell, hl⟩ := (HR.out.below HI.out.2 HI.out.2.size).at_ hlt2
          have hfit := HF.out Ls[k] (List.getElem_mem hlt2)
          have HN := Lib.hid (fun h : badL Ls[k] = false => (by rw [any_take_snoc hlt2, HI.out.1, h]; rfl : (Ls.take (k + 1)).any badL = false))
          have HY := Lib.hid (fun h : badL Ls[k] = true => (by unfold chkR; rw [if_neg (by rw [H1.out.1]; decide), if_pos (any_at hlt2 h)] : chkR Ls = 10))
          have HX := Lib.hid (ContainsFunc_rows 90 (fun r => r.any fun v => !v.ok) AL cl Ls[k] _ hl hfit.1 (enters_of Tryz.func90 (by kernel_rfl) rfl) (fun w1 _ r hm A c _ hv => hasNone_any A c r w1 hv (hfit.2 r hm).2 (hfit.2 r hm).1))
          clear hl hfit
          go_wp2_with fail
          refine HX.out.mono ?_
          rintro e w1 ⟨rfl, hb1⟩
          have W1 := Lib.hid (thn HI.out.2 hb1)
          clear hb1 HX
          have HE : Hid ((Ls[k].any fun r => r.any fun v => !v.ok) = badL Ls[k]) := rfl
          rw [HE.out]
          generalize badL Ls[k] = q at *
          cases q
          · have HN2 := Lib.hid (HN.out rfl)
            clear HN HY HE
            go_wp2_with fail
            go_roundw
            case rel => exact ⟨k + 1, by omega, by go_num, HN2.out, W1.out⟩
            case measure => simp [intOf]; omega
          · have HY2 := Lib.hid (HY.out rfl)
            clear HN HY HE
            go_wp2_with fail
            go_ret
            exact ⟨ret_int HY2.out.symm, W1.out⟩
        · have hkn : k = Ls.length := by omega
          subst hkn
          have HE : Hid (chkR Ls = 0) := by
            show chkR Ls = 0
            have := HI.out.1
            rw [List.take_length] at this
            unfold chkR
            rw [if_neg (by rw [H1.out.1]; decide), if_neg (by rw [this]; decide)]
          go_wp2_with fail
          go_ret
          exact ⟨ret_int HE.out.symm, HI.out.2⟩
end Go.Proofs.YtapnnheggjahlaaGreatDoor
