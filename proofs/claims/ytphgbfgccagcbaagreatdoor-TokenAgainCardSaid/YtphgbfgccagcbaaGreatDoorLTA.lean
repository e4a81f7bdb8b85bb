/-
  THE WALK of TokenAgain: the tokens of the joined tokens are these.
-/
import Derived.Test.YtphgbfgccagcbaaGreatDoorLTR
import Derived.IntWalk
namespace Go.Proofs.YtphgbfgccagcbaaGreatDoor
open Go.RowKit

theorem ba_get (u : ByteArray) (i : Nat) (_ : i < u.data.toList.length) (h2 : i < u.size) : u.data.toList[i] = u[i] := Array.getElem_toList (xs := u.data) h2
/-- the token that stands at a place of the string -/
def StandsAt (u : ByteArray) (F kk : Nat) (y : ByteArray) (p : Nat) : Prop :=
  F ≤ p ∧ 0 < y.size ∧ p + y.size ≤ u.size ∧ (∀ i (h1 : i < y.size) (h2 : p + i < u.size), u[p + i] = y[i] ∨ (kk ≠ 4 ∧ y[i].toNat = u[p + i].toNat + 32 ∧ 65 ≤ u[p + i].toNat ∧ u[p + i].toNat ≤ 90)) ∧
    ∀ i (h : i < u.size), F ≤ i → i < p → u[i] = 32 ∨ u[i] = 10
theorem stand_cons {u y : ByteArray} {F kk p : Nat} {ts : List (Nat × List UInt8 × Nat)} (h : Tok.stand u.data.toList F ((kk, y.data.toList, p) :: ts)) :
    StandsAt u F kk y p ∧ Tok.stand u.data.toList (p + y.size) ts := by
  have hl : y.data.toList.length = y.size := Array.length_toList
  have hu : u.data.toList.length = u.size := Array.length_toList
  obtain ⟨h1, h2, h3, h4, ⟨h5, h6, h7⟩, h8⟩ := h
  have h9 : 0 < y.size := by
    have := List.length_pos_iff.2 h2
    omega
  refine ⟨⟨h1, h9, by omega, fun i hi hi2 => ?_, fun i hi hF hp => ?_⟩, by rw [hl] at h8; exact h8⟩
  · have hx := h6 i (by omega)
    rw [ba_get u (p + i) (by omega) hi2, ba_get y i (by omega) hi] at hx
    rcases hx with e | ⟨e1, e2, e3, e4⟩
    · exact .inl e
    · refine .inr ⟨e1, ?_, e3, e4⟩
      rw [← e2, UInt8.toNat_add]
      simp
      omega
  · have hx := h7 i hp hF
    rw [ba_get u i (by omega) hi] at hx
    exact hx
theorem stand_nil {u : ByteArray} {F : Nat} (h : Tok.stand u.data.toList F []) : ∀ i (h : i < u.size), F ≤ i → u[i] = 32 ∨ u[i] = 10 := fun i hi hF => by
  have hu : u.data.toList.length = u.size := Array.length_toList
  have hx := h i (by omega) hF
  rw [ba_get u i (by omega) hi] at hx
  exact hx
theorem map_drop_cons {ts : List (Nat × List UInt8 × Nat)} {k : Nat} (h : k < ts.length) : ts.drop k = ts[k] :: ts.drop (k + 1) := List.drop_eq_getElem_cons h
theorem toTk_texts (ts : List (Nat × List UInt8 × Nat)) : bytesL ((ts.map toTk).map Tk.s) = ts.map (·.2.1) := by
  unfold bytesL
  rw [List.map_map, List.map_map]
  refine List.map_congr_left fun x _ => ?_
  rfl
theorem tk_small {s : ByteArray} {ts : List (Nat × List UInt8 × Nat)} (h : tkB 0 s.data.toList = some ts) : ∀ x ∈ ts.map toTk, x.s.size ≤ s.size := fun x hx => by
  obtain ⟨z, hz, rfl⟩ := List.mem_map.1 hx
  have key : ∀ (a : Nat) (l : List (Nat × List UInt8 × Nat)), Tok.stand s.data.toList a l → ∀ z ∈ l, z.2.1.length ≤ s.data.toList.length := by
    intro a l
    induction l generalizing a with
    | nil => intro _ z hz; cases hz
    | cons x l ih =>
      obtain ⟨k, t, p⟩ := x
      intro hst z hz
      obtain ⟨h1, h2, h3, h4, ⟨h5, h6, h7⟩, h8⟩ := hst
      rcases List.mem_cons.1 hz with rfl | hz
      · show t.length ≤ _; omega
      · exact ih _ h8 z hz
  have := key 0 ts (Tok.tkz_stand h) z hz
  rw [Array.length_toList] at this
  show (toTk z).s.size ≤ s.size
  have e : (toTk z).s.size = z.2.1.length := List.size_toArray ..
  rw [e]; exact this
/-- the kinds and the texts of two lists -/
def SameKT (a b : List Tk) : Prop := a.map (fun x => (x.k, x.s)) = b.map (fun x => (x.k, x.s))
theorem sameKT_of {a b : List (Nat × List UInt8 × Nat)} (h : a.map (fun x => (x.1, x.2.1)) = b.map (fun x => (x.1, x.2.1))) : SameKT (a.map toTk) (b.map toTk) := by
  unfold SameKT
  rw [List.map_map, List.map_map]
  have e : ((fun x : Tk => (x.k, x.s)) ∘ toTk) = (fun x : Nat × List UInt8 => ((x.1 : Int), (⟨x.2.toArray⟩ : ByteArray))) ∘ fun x : Nat × List UInt8 × Nat => (x.1, x.2.1) := rfl
  rw [e, ← List.map_map, ← List.map_map, h]
theorem SameKT.len {a b : List Tk} (h : SameKT a b) : a.length = b.length := by
  have := congrArg List.length h
  simpa using this
theorem SameKT.at_ {a b : List Tk} (h : SameKT a b) {k : Nat} (h1 : k < a.length) (h2 : k < b.length) : a[k].k = b[k].k ∧ a[k].s = b[k].s := by
  have e : (a.map (fun x => (x.k, x.s)))[k]? = (b.map (fun x => (x.k, x.s)))[k]? := by rw [h]
  simp only [List.getElem?_map, List.getElem?_eq_getElem h1, List.getElem?_eq_getElem h2, Option.map_some, Option.some.injEq, Prod.mk.injEq] at e
  exact e
set_option maxHeartbeats 8000000 in
set_option maxRecDepth 100000 in
theorem TokenAgain_any (s : ByteArray) (w : World) (hG : GT w) (hs : s.size ≤ maxLen) :
    Calls Tryz.prog 6 #[.string s] w fun e w' => e = .returned (.bool true) ∧ Below w.heap.size w w' := by
  have HG := Lib.hid hG
  have hs := Nat.le_trans hs (Nat.le_refl _)
  unfold maxLen at hs
  clear hG
  by_cases hle : (s.size : Int) ≤ 4000
  · have hmn : min (s.size : Int) 4000 = (s.size : Int) := by omega
    go_enter Tryz.func6, Tryz.ntmps6
    go_wp2_with fail
    have hu : s.size ≤ 4000 := by omega
    obtain ⟨u, rfl⟩ : ∃ u : ByteArray, u = s := ⟨s, rfl⟩
    clear hle
    refine (PTokens_any u w HG.out (by omega)).mono ?_
    rintro e w1 ⟨⟨v, ts, r, rfl, ho, hc⟩, hb⟩
    obtain ⟨L, hL⟩ : ∃ L, L = ts.map toTk := ⟨_, rfl⟩
    rw [← hL] at ho
    obtain ⟨A, c, rfl, hr⟩ := ho.reads
    have H1 := Lib.hid (And.intro hr hb)
    have HL := Lib.hid hL
    clear ho hr hb hL
    rcases hc with ⟨h1, rfl, rfl⟩ | ⟨h1, hno, rfl, rfl⟩ | ⟨h1, hts, rfl⟩
    · exact absurd h1 (by omega)
    · have HGw := Lib.hid (HG.out.thn H1.out.2)
      have hL0 : L = [] := by rw [HL.out]; rfl
      clear hno h1 hu HL
      subst hL0
      go_wp2_with fail
      refine (awake8_any _ HGw.out).mono ?_
      rintro e w2 ⟨rfl, hb2⟩
      have H2 := Lib.hid (thn H1.out.2 hb2)
      clear hb2
      go_wp2_with fail
      go_ret
      exact ⟨rfl, H2.out⟩
    · have HTs := Lib.hid hts
      have hlen0 := tk_len hts
      have hll : L.length = ts.length := by rw [HL.out, List.length_map]
      rw [Array.length_toList] at hlen0
      have hlen : L.length ≤ 4000 := by rw [hll]; exact Nat.le_trans hlen0 hu
      have HLl := Lib.hid hll
      have HSm : Hid (∀ x ∈ L, x.s.size ≤ 20000) := Lib.hid fun x hx => by
        rw [HL.out] at hx
        have := tk_small HTs.out x hx
        omega
      clear hts hlen0 hll h1
      go_wp2_with fail
      go_loopw [6, 7] (fun f i wr => ∃ (k n F : Nat), k ≤ L.length ∧ i = .int .i64 k ∧ f = .int .i64 F ∧ F ≤ u.size ∧ wr = w1.drewN n ∧ Hid (Tok.stand u.data.toList F (ts.drop k))) (fun _ i _ => L.length - (intOf i).toNat)
      case atStart => exact ⟨0, 0, 0, Nat.zero_le _, rfl, rfl, Nat.zero_le _, rfl, Lib.hid (Tok.tkz_stand HTs.out)⟩
      case round =>
        obtain ⟨k, nd, F, hk, rfl, rfl, hF, rfl, HSt⟩ := hrel
        by_cases hlt : k < L.length
        · have hlti : (k : Int) < (L.length : Int) := by omega
          have hltt : k < ts.length := by rw [← HLl.out]; exact hlt
          obtain ⟨b, o, rfl, hb, c0, c1, c2⟩ := H1.out.1.at_ hlt
          obtain ⟨kk, y, p, hx⟩ : ∃ (kk : Nat) (y : ByteArray) (p : Nat), ts[k] = (kk, y.data.toList, p) := ⟨ts[k].1, ⟨ts[k].2.1.toArray⟩, ts[k].2.2, rfl⟩
          have hLk : L[k] = ⟨kk, y, p⟩ := by
            have e : L[k] = toTk ts[k] := by simp only [HL.out, List.getElem_map]
            rw [e, hx]
            unfold toTk
            simp only [ba_of]
          rw [hLk] at c0 c1 c2
          simp only at c0 c1 c2
          have hst := HSt.out
          rw [map_drop_cons hltt, hx] at hst
          obtain ⟨⟨hFp, hy0, hpy, hby, hbl⟩, hst2⟩ := stand_cons hst
          have HB := Lib.hid (And.intro hby hbl)
          have HSt2 := Lib.hid hst2
          clear hst hst2 hby hbl hLk hx HSt
          obtain ⟨m, hm⟩ : ∃ m : Nat, m = p + y.size := ⟨_, rfl⟩
          have hmi : (p : Int) + (y.size : Int) = (m : Int) := by omega
          have hmu : m ≤ u.size := by omega
          have f1 : decide ((p : Int) < (F : Int)) = false := decide_eq_false (by omega)
          have f2 : decide ((y.size : Int) < 1) = false := decide_eq_false (by omega)
          have f3 : decide ((u.size : Int) < (m : Int)) = false := decide_eq_false (by omega)
          rw [← hm] at HSt2
          clear hm
          go_wp2_with fail
          go_quiet (fail)
          go_wp2_with fail
          go_loopw [10] (fun j wr => ∃ (k1 n1 : Nat), k1 ≤ y.size ∧ j = .int .i64 k1 ∧ wr = w1.drewN n1) (fun j _ => y.size - (intOf j).toNat)
          case atStart => exact ⟨0, _, Nat.zero_le _, rfl, rfl⟩
          case round =>
            obtain ⟨k1, n1, hk1, rfl, rfl⟩ := hrel
            by_cases hlt1 : k1 < y.size
            · have hlt1i : (k1 : Int) < (y.size : Int) := by omega
              obtain ⟨q, hq⟩ : ∃ q : Nat, q = p + k1 := ⟨_, rfl⟩
              have hqi : (p : Int) + (k1 : Int) = (q : Int) := by omega
              have hqu : q < u.size := by omega
              have hqui : (q : Int) < (u.size : Int) := by omega
              have hby : u[q] = y[k1] ∨ (kk ≠ 4 ∧ y[k1].toNat = u[q].toNat + 32 ∧ 65 ≤ u[q].toNat ∧ u[q].toNat ≤ 90) := by
                subst hq; exact HB.out.1 k1 hlt1 (by omega)
              have hwr : IntKind.i64.wrap ((p : Int) + (k1 : Int)) = (q : Int) := by rw [hqi]; exact IntWalk.i64_in _ (by omega)
              clear hq
              rcases hby with e | ⟨e1, e2, e3, e4⟩
              · have g1 : ((u[q].toNat : Int) != (y[k1].toNat : Int)) = false := by rw [e]; simp
                clear e
                go_wp2_with fail
                go_quiet (fail)
                go_wp2_with fail
                go_roundw
                case rel => exact ⟨k1 + 1, _, by omega, by go_num, rfl⟩
                case measure => simp [intOf]; omega
              · have g1 : ((u[q].toNat : Int) != (y[k1].toNat : Int)) = true := by simp; omega
                have g2 : ((kk : Int) == 4) = false := beq_eq_false_iff_ne.2 (by omega)
                have g3 : ((u[q].toNat : Int) + 32 != (y[k1].toNat : Int)) = false := by simp; omega
                have g4 : decide ((u[q].toNat : Int) < 65) = false := decide_eq_false (by omega)
                have g5 : decide ((90 : Int) < (u[q].toNat : Int)) = false := decide_eq_false (by omega)
                have g6 : (u[q].toNat : Int) ≤ 90 := by omega
                clear e1 e2 e3 e4
                go_wp2_with fail
                go_quiet (fail)
                go_wp2_with fail
                go_roundw
                case rel => exact ⟨k1 + 1, _, by omega, by go_num, rfl⟩
                case measure => simp [intOf]; omega
            · have hlf1 : decide ((k1 : Int) < (y.size : Int)) = false := decide_eq_false (by omega)
              go_wp2_with fail
              go_loopw [13] (fun j wr => ∃ (k2 : Nat), F ≤ k2 ∧ k2 ≤ p ∧ j = .int .i64 k2 ∧ wr = w1.drewN n1) (fun j _ => p - (intOf j).toNat)
              case atStart => exact ⟨F, Nat.le_refl _, hFp, rfl, rfl⟩
              case round =>
                obtain ⟨k2, hk2, hk2p, rfl, rfl⟩ := hrel
                by_cases hlt2 : k2 < p
                · have hlt2i : (k2 : Int) < (p : Int) := by omega
                  have hk2u : k2 < u.size := by omega
                  have hk2ui : (k2 : Int) < (u.size : Int) := by omega
                  rcases HB.out.2 k2 hk2u hk2 hlt2 with e | e
                  · have e1 : ((u[k2].toNat : Int) != 32) = false := by rw [e]; rfl
                    clear e
                    go_wp2_with fail
                    go_roundw
                    case rel => exact ⟨k2 + 1, by omega, by omega, by go_num, by first | rfl | trivial⟩
                    case measure => simp [intOf]; omega
                  · have e1 : ((u[k2].toNat : Int) != 32) = true := by rw [e]; rfl
                    have e2 : ((u[k2].toNat : Int) != 10) = false := by rw [e]; rfl
                    clear e
                    go_wp2_with fail
                    go_roundw
                    case rel => exact ⟨k2 + 1, by omega, by omega, by go_num, by first | rfl | trivial⟩
                    case measure => simp [intOf]; omega
                · have hlf2 : decide ((k2 : Int) < (p : Int)) = false := decide_eq_false (by omega)
                  go_wp2_with fail
                  go_roundw
                  case rel => exact ⟨k + 1, _, m, by omega, by go_num, rfl, hmu, rfl, HSt2⟩
                  case measure => simp [intOf]; omega
        · have hkl : k = L.length := by omega
          have hlf : decide ((k : Int) < (L.length : Int)) = false := decide_eq_false (by omega)
          have HN : Hid (∀ i (h : i < u.size), F ≤ i → u[i] = 32 ∨ u[i] = 10) := Lib.hid (by
            have h := HSt.out
            rw [List.drop_eq_nil_of_le (by rw [← HLl.out]; omega)] at h
            exact stand_nil h)
          clear HSt hkl
          go_wp2_with fail
          go_loopw [14] (fun j wr => ∃ (k2 : Nat), F ≤ k2 ∧ k2 ≤ u.size ∧ j = .int .i64 k2 ∧ wr = w1.drewN nd) (fun j _ => u.size - (intOf j).toNat)
          case atStart => exact ⟨F, Nat.le_refl _, hF, rfl, rfl⟩
          case round =>
            obtain ⟨k2, hk2, hk2u, rfl, rfl⟩ := hrel
            by_cases hlt2 : k2 < u.size
            · have hk2ui : (k2 : Int) < (u.size : Int) := by omega
              rcases HN.out k2 hlt2 hk2 with e | e
              · have e1 : ((u[k2].toNat : Int) != 32) = false := by rw [e]; rfl
                clear e
                go_wp2_with fail
                go_roundw
                case rel => exact ⟨k2 + 1, by omega, by omega, by go_num, by first | rfl | trivial⟩
                case measure => simp [intOf]; omega
              · have e1 : ((u[k2].toNat : Int) != 32) = true := by rw [e]; rfl
                have e2 : ((u[k2].toNat : Int) != 10) = false := by rw [e]; rfl
                clear e
                go_wp2_with fail
                go_roundw
                case rel => exact ⟨k2 + 1, by omega, by omega, by go_num, by first | rfl | trivial⟩
                case measure => simp [intOf]; omega
            · have hlf2 : decide ((k2 : Int) < (u.size : Int)) = false := decide_eq_false (by omega)
              have HB1 := Lib.hid (below_drewN H1.out.2 nd)
              have HG1 := Lib.hid (HG.out.thn HB1.out)
              have hjoin := PJoin_any A c L (w1.drewN nd) HG1.out H1.out.1 HSm.out (by omega)
              have HJt : Hid (bytesL (L.map Tk.s) = ts.map (·.2.1)) := Lib.hid (by rw [HL.out, toTk_texts])
              obtain ⟨jb, hjb⟩ : ∃ jb : ByteArray, jb = ⟨(Tok.join (bytesL (L.map Tk.s))).toArray⟩ := ⟨_, rfl⟩
              have HJb : Hid (jb.data.toList = Tok.join (ts.map (·.2.1))) := Lib.hid (by rw [hjb, HJt.out])
              have HJe := Lib.hid hjb
              rw [← hjb] at hjoin
              have HJ := Lib.hid hjoin
              clear hjoin hjb HN
              go_wp2_with fail
              refine HJ.out.mono ?_
              rintro e w2 ⟨rfl, hb2⟩
              have H2 := Lib.hid (And.intro (H1.out.1.below (w' := w2) ⟨hb2.os, hb2.tape, hb2.output, hb2.size, hb2.block⟩ hb2.size) (thn HB1.out hb2))
              have HG2 := Lib.hid (HG.out.thn H2.out.2)
              clear hb2 HJ H1
              by_cases hj4 : jb.size ≤ 4000
              · have hjd : decide ((4000 : Int) < (jb.size : Int)) = false := decide_eq_false (by omega)
                go_wp2_with fail
                refine (PTokens_any jb w2 HG2.out (by omega)).mono ?_
                rintro e w3 ⟨⟨v, us, r, rfl, ho, hc⟩, hb⟩
                obtain ⟨us', hus1, hus2⟩ := Tok.tkz_join HTs.out
                rw [← HJb.out] at hus1
                rcases hc with ⟨h1, _⟩ | ⟨_, h1, _⟩ | ⟨_, h1, rfl⟩
                · exact absurd h1 (by omega)
                · rw [show tkB 0 jb.data.toList = some us' from hus1] at h1; cases h1
                rw [show tkB 0 jb.data.toList = some us' from hus1] at h1
                injection h1 with h1
                subst h1
                obtain ⟨M, hM⟩ : ∃ M, M = us'.map toTk := ⟨_, rfl⟩
                have HK : Hid (SameKT M L) := Lib.hid (by rw [hM, HL.out]; exact sameKT_of hus2)
                have HMs : Hid (∀ x ∈ M, x.s.size ≤ 20000) := Lib.hid fun x hx => by
                  rw [hM] at hx
                  have := tk_small hus1 x hx
                  omega
                rw [← hM] at ho
                obtain ⟨A3, c3, rfl, hr3⟩ := ho.reads
                have H3 := Lib.hid (And.intro (H2.out.1.below hb hb.size) (And.intro hr3 (thn H2.out.2 hb)))
                have hMl := HK.out.len
                have hMl4 : M.length ≤ 4000 := by omega
                have hMd : ((M.length : Int) != (L.length : Int)) = false := by rw [hMl]; simp
                have HMl := Lib.hid hMl
                clear ho hr3 hb hus1 hus2 hM H2 hMl
                go_wp2_with fail
                go_loopw [18] (fun j wr => ∃ (k3 n3 : Nat), k3 ≤ M.length ∧ j = .int .i64 k3 ∧ wr = w3.drewN n3) (fun j _ => M.length - (intOf j).toNat)
                case atStart => exact ⟨0, 0, Nat.zero_le _, rfl, rfl⟩
                case round =>
                  obtain ⟨k3, n3, hk3, rfl, rfl⟩ := hrel
                  by_cases hlt3 : k3 < M.length
                  · have hlt3i : (k3 : Int) < (M.length : Int) := by omega
                    have hlt3L : k3 < L.length := by rw [← HMl.out]; exact hlt3
                    have hlt3Li : (k3 : Int) < (L.length : Int) := by omega
                    obtain ⟨b, o, rfl, hb, c0, c1, c2⟩ := H3.out.1.at_ hlt3L
                    obtain ⟨b', o', rfl, hb', d0, d1, d2⟩ := H3.out.2.1.at_ hlt3
                    obtain ⟨z1, z2⟩ := HK.out.at_ hlt3 hlt3L
                    rw [z1] at d0
                    rw [z2] at d1
                    clear z1 z2
                    generalize L[k3] = x at *
                    generalize M[k3] = x2 at *
                    obtain ⟨xk, xs, xa⟩ := x
                    simp only at c0 c1 c2 d0 d1
                    go_wp2_with fail
                    go_quiet (fail)
                    go_wp2_with fail
                    go_roundw
                    case rel => exact ⟨k3 + 1, _, by omega, by go_num, rfl⟩
                    case measure => simp [intOf]; omega
                  · have hlf3 : decide ((k3 : Int) < (M.length : Int)) = false := decide_eq_false (by omega)
                    have HB3 := Lib.hid (below_drewN H3.out.2.2 n3)
                    have HG3 := Lib.hid (HG.out.thn HB3.out)
                    have hjoin := PJoin_any A3 c3 M (w3.drewN n3) HG3.out H3.out.2.1 HMs.out (by omega)
                    have hte : M.map Tk.s = L.map Tk.s := by
                      have h := congrArg (List.map Prod.snd) HK.out
                      rw [List.map_map, List.map_map] at h
                      exact h
                    rw [hte, ← HJe.out] at hjoin
                    have HJ := Lib.hid hjoin
                    clear hjoin hte
                    go_wp2_with fail
                    refine HJ.out.mono ?_
                    rintro e w4 ⟨rfl, hb4⟩
                    have H4 := Lib.hid (thn HB3.out hb4)
                    have HG4 := Lib.hid (HG.out.thn H4.out)
                    clear hb4 HJ
                    go_wp2_with fail
                    refine (awake8_any _ HG4.out).mono ?_
                    rintro e w5 ⟨rfl, hb5⟩
                    have H5 := Lib.hid (thn H4.out hb5)
                    clear hb5
                    go_wp2_with fail
                    go_ret
                    exact ⟨rfl, H5.out⟩
              · have hjd : decide ((4000 : Int) < (jb.size : Int)) = true := decide_eq_true (by omega)
                go_wp2_with fail
                refine (awake8_any _ HG2.out).mono ?_
                rintro e w3 ⟨rfl, hb3⟩
                have H3 := Lib.hid (thn H2.out.2 hb3)
                clear hb3
                go_wp2_with fail
                go_ret
                exact ⟨rfl, H3.out⟩
  · have hgt : (4000 : Int) < (s.size : Int) := by omega
    have hmn : min (s.size : Int) 4000 = 4000 := by omega
    go_enter Tryz.func6, Tryz.ntmps6
    go_wp2_with fail
    have hu : (s.extract 0 4000).size ≤ 4000 := by rw [ByteArray.size_extract]; omega
    generalize s.extract 0 4000 = u at *
    clear hle hgt
    refine (PTokens_any u w HG.out (by omega)).mono ?_
    rintro e w1 ⟨⟨v, ts, r, rfl, ho, hc⟩, hb⟩
    obtain ⟨L, hL⟩ : ∃ L, L = ts.map toTk := ⟨_, rfl⟩
    rw [← hL] at ho
    obtain ⟨A, c, rfl, hr⟩ := ho.reads
    have H1 := Lib.hid (And.intro hr hb)
    have HL := Lib.hid hL
    clear ho hr hb hL
    rcases hc with ⟨h1, rfl, rfl⟩ | ⟨h1, hno, rfl, rfl⟩ | ⟨h1, hts, rfl⟩
    · exact absurd h1 (by omega)
    · have HGw := Lib.hid (HG.out.thn H1.out.2)
      have hL0 : L = [] := by rw [HL.out]; rfl
      clear hno h1 hu HL
      subst hL0
      go_wp2_with fail
      refine (awake8_any _ HGw.out).mono ?_
      rintro e w2 ⟨rfl, hb2⟩
      have H2 := Lib.hid (thn H1.out.2 hb2)
      clear hb2
      go_wp2_with fail
      go_ret
      exact ⟨rfl, H2.out⟩
    · have HTs := Lib.hid hts
      have hlen0 := tk_len hts
      have hll : L.length = ts.length := by rw [HL.out, List.length_map]
      rw [Array.length_toList] at hlen0
      have hlen : L.length ≤ 4000 := by rw [hll]; exact Nat.le_trans hlen0 hu
      have HLl := Lib.hid hll
      have HSm : Hid (∀ x ∈ L, x.s.size ≤ 20000) := Lib.hid fun x hx => by
        rw [HL.out] at hx
        have := tk_small HTs.out x hx
        omega
      clear hts hlen0 hll h1
      go_wp2_with fail
      go_loopw [6, 7] (fun f i wr => ∃ (k n F : Nat), k ≤ L.length ∧ i = .int .i64 k ∧ f = .int .i64 F ∧ F ≤ u.size ∧ wr = w1.drewN n ∧ Hid (Tok.stand u.data.toList F (ts.drop k))) (fun _ i _ => L.length - (intOf i).toNat)
      case atStart => exact ⟨0, 0, 0, Nat.zero_le _, rfl, rfl, Nat.zero_le _, rfl, Lib.hid (Tok.tkz_stand HTs.out)⟩
      case round =>
        obtain ⟨k, nd, F, hk, rfl, rfl, hF, rfl, HSt⟩ := hrel
        by_cases hlt : k < L.length
        · have hlti : (k : Int) < (L.length : Int) := by omega
          have hltt : k < ts.length := by rw [← HLl.out]; exact hlt
          obtain ⟨b, o, rfl, hb, c0, c1, c2⟩ := H1.out.1.at_ hlt
          obtain ⟨kk, y, p, hx⟩ : ∃ (kk : Nat) (y : ByteArray) (p : Nat), ts[k] = (kk, y.data.toList, p) := ⟨ts[k].1, ⟨ts[k].2.1.toArray⟩, ts[k].2.2, rfl⟩
          have hLk : L[k] = ⟨kk, y, p⟩ := by
            have e : L[k] = toTk ts[k] := by simp only [HL.out, List.getElem_map]
            rw [e, hx]
            unfold toTk
            simp only [ba_of]
          rw [hLk] at c0 c1 c2
          simp only at c0 c1 c2
          have hst := HSt.out
          rw [map_drop_cons hltt, hx] at hst
          obtain ⟨⟨hFp, hy0, hpy, hby, hbl⟩, hst2⟩ := stand_cons hst
          have HB := Lib.hid (And.intro hby hbl)
          have HSt2 := Lib.hid hst2
          clear hst hst2 hby hbl hLk hx HSt
          obtain ⟨m, hm⟩ : ∃ m : Nat, m = p + y.size := ⟨_, rfl⟩
          have hmi : (p : Int) + (y.size : Int) = (m : Int) := by omega
          have hmu : m ≤ u.size := by omega
          have f1 : decide ((p : Int) < (F : Int)) = false := decide_eq_false (by omega)
          have f2 : decide ((y.size : Int) < 1) = false := decide_eq_false (by omega)
          have f3 : decide ((u.size : Int) < (m : Int)) = false := decide_eq_false (by omega)
          rw [← hm] at HSt2
          clear hm
          go_wp2_with fail
          go_quiet (fail)
          go_wp2_with fail
          go_loopw [10] (fun j wr => ∃ (k1 n1 : Nat), k1 ≤ y.size ∧ j = .int .i64 k1 ∧ wr = w1.drewN n1) (fun j _ => y.size - (intOf j).toNat)
          case atStart => exact ⟨0, _, Nat.zero_le _, rfl, rfl⟩
          case round =>
            obtain ⟨k1, n1, hk1, rfl, rfl⟩ := hrel
            by_cases hlt1 : k1 < y.size
            · have hlt1i : (k1 : Int) < (y.size : Int) := by omega
              obtain ⟨q, hq⟩ : ∃ q : Nat, q = p + k1 := ⟨_, rfl⟩
              have hqi : (p : Int) + (k1 : Int) = (q : Int) := by omega
              have hqu : q < u.size := by omega
              have hqui : (q : Int) < (u.size : Int) := by omega
              have hby : u[q] = y[k1] ∨ (kk ≠ 4 ∧ y[k1].toNat = u[q].toNat + 32 ∧ 65 ≤ u[q].toNat ∧ u[q].toNat ≤ 90) := by
                subst hq; exact HB.out.1 k1 hlt1 (by omega)
              have hwr : IntKind.i64.wrap ((p : Int) + (k1 : Int)) = (q : Int) := by rw [hqi]; exact IntWalk.i64_in _ (by omega)
              clear hq
              rcases hby with e | ⟨e1, e2, e3, e4⟩
              · have g1 : ((u[q].toNat : Int) != (y[k1].toNat : Int)) = false := by rw [e]; simp
                clear e
                go_wp2_with fail
                go_quiet (fail)
                go_wp2_with fail
                go_roundw
                case rel => exact ⟨k1 + 1, _, by omega, by go_num, rfl⟩
                case measure => simp [intOf]; omega
              · have g1 : ((u[q].toNat : Int) != (y[k1].toNat : Int)) = true := by simp; omega
                have g2 : ((kk : Int) == 4) = false := beq_eq_false_iff_ne.2 (by omega)
                have g3 : ((u[q].toNat : Int) + 32 != (y[k1].toNat : Int)) = false := by simp; omega
                have g4 : decide ((u[q].toNat : Int) < 65) = false := decide_eq_false (by omega)
                have g5 : decide ((90 : Int) < (u[q].toNat : Int)) = false := decide_eq_false (by omega)
                have g6 : (u[q].toNat : Int) ≤ 90 := by omega
                clear e1 e2 e3 e4
                go_wp2_with fail
                go_quiet (fail)
                go_wp2_with fail
                go_roundw
                case rel => exact ⟨k1 + 1, _, by omega, by go_num, rfl⟩
                case measure => simp [intOf]; omega
            · have hlf1 : decide ((k1 : Int) < (y.size : Int)) = false := decide_eq_false (by omega)
              go_wp2_with fail
              go_loopw [13] (fun j wr => ∃ (k2 : Nat), F ≤ k2 ∧ k2 ≤ p ∧ j = .int .i64 k2 ∧ wr = w1.drewN n1) (fun j _ => p - (intOf j).toNat)
              case atStart => exact ⟨F, Nat.le_refl _, hFp, rfl, rfl⟩
              case round =>
                obtain ⟨k2, hk2, hk2p, rfl, rfl⟩ := hrel
                by_cases hlt2 : k2 < p
                · have hlt2i : (k2 : Int) < (p : Int) := by omega
                  have hk2u : k2 < u.size := by omega
                  have hk2ui : (k2 : Int) < (u.size : Int) := by omega
                  rcases HB.out.2 k2 hk2u hk2 hlt2 with e | e
                  · have e1 : ((u[k2].toNat : Int) != 32) = false := by rw [e]; rfl
                    clear e
                    go_wp2_with fail
                    go_roundw
                    case rel => exact ⟨k2 + 1, by omega, by omega, by go_num, by first | rfl | trivial⟩
                    case measure => simp [intOf]; omega
                  · have e1 : ((u[k2].toNat : Int) != 32) = true := by rw [e]; rfl
                    have e2 : ((u[k2].toNat : Int) != 10) = false := by rw [e]; rfl
                    clear e
                    go_wp2_with fail
                    go_roundw
                    case rel => exact ⟨k2 + 1, by omega, by omega, by go_num, by first | rfl | trivial⟩
                    case measure => simp [intOf]; omega
                · have hlf2 : decide ((k2 : Int) < (p : Int)) = false := decide_eq_false (by omega)
                  go_wp2_with fail
                  go_roundw
                  case rel => exact ⟨k + 1, _, m, by omega, by go_num, rfl, hmu, rfl, HSt2⟩
                  case measure => simp [intOf]; omega
        · have hkl : k = L.length := by omega
          have hlf : decide ((k : Int) < (L.length : Int)) = false := decide_eq_false (by omega)
          have HN : Hid (∀ i (h : i < u.size), F ≤ i → u[i] = 32 ∨ u[i] = 10) := Lib.hid (by
            have h := HSt.out
            rw [List.drop_eq_nil_of_le (by rw [← HLl.out]; omega)] at h
            exact stand_nil h)
          clear HSt hkl
          go_wp2_with fail
          go_loopw [14] (fun j wr => ∃ (k2 : Nat), F ≤ k2 ∧ k2 ≤ u.size ∧ j = .int .i64 k2 ∧ wr = w1.drewN nd) (fun j _ => u.size - (intOf j).toNat)
          case atStart => exact ⟨F, Nat.le_refl _, hF, rfl, rfl⟩
          case round =>
            obtain ⟨k2, hk2, hk2u, rfl, rfl⟩ := hrel
            by_cases hlt2 : k2 < u.size
            · have hk2ui : (k2 : Int) < (u.size : Int) := by omega
              rcases HN.out k2 hlt2 hk2 with e | e
              · have e1 : ((u[k2].toNat : Int) != 32) = false := by rw [e]; rfl
                clear e
                go_wp2_with fail
                go_roundw
                case rel => exact ⟨k2 + 1, by omega, by omega, by go_num, by first | rfl | trivial⟩
                case measure => simp [intOf]; omega
              · have e1 : ((u[k2].toNat : Int) != 32) = true := by rw [e]; rfl
                have e2 : ((u[k2].toNat : Int) != 10) = false := by rw [e]; rfl
                clear e
                go_wp2_with fail
                go_roundw
                case rel => exact ⟨k2 + 1, by omega, by omega, by go_num, by first | rfl | trivial⟩
                case measure => simp [intOf]; omega
            · have hlf2 : decide ((k2 : Int) < (u.size : Int)) = false := decide_eq_false (by omega)
              have HB1 := Lib.hid (below_drewN H1.out.2 nd)
              have HG1 := Lib.hid (HG.out.thn HB1.out)
              have hjoin := PJoin_any A c L (w1.drewN nd) HG1.out H1.out.1 HSm.out (by omega)
              have HJt : Hid (bytesL (L.map Tk.s) = ts.map (·.2.1)) := Lib.hid (by rw [HL.out, toTk_texts])
              obtain ⟨jb, hjb⟩ : ∃ jb : ByteArray, jb = ⟨(Tok.join (bytesL (L.map Tk.s))).toArray⟩ := ⟨_, rfl⟩
              have HJb : Hid (jb.data.toList = Tok.join (ts.map (·.2.1))) := Lib.hid (by rw [hjb, HJt.out])
              have HJe := Lib.hid hjb
              rw [← hjb] at hjoin
              have HJ := Lib.hid hjoin
              clear hjoin hjb HN
              go_wp2_with fail
              refine HJ.out.mono ?_
              rintro e w2 ⟨rfl, hb2⟩
              have H2 := Lib.hid (And.intro (H1.out.1.below (w' := w2) ⟨hb2.os, hb2.tape, hb2.output, hb2.size, hb2.block⟩ hb2.size) (thn HB1.out hb2))
              have HG2 := Lib.hid (HG.out.thn H2.out.2)
              clear hb2 HJ H1
              by_cases hj4 : jb.size ≤ 4000
              · have hjd : decide ((4000 : Int) < (jb.size : Int)) = false := decide_eq_false (by omega)
                go_wp2_with fail
                refine (PTokens_any jb w2 HG2.out (by omega)).mono ?_
                rintro e w3 ⟨⟨v, us, r, rfl, ho, hc⟩, hb⟩
                obtain ⟨us', hus1, hus2⟩ := Tok.tkz_join HTs.out
                rw [← HJb.out] at hus1
                rcases hc with ⟨h1, _⟩ | ⟨_, h1, _⟩ | ⟨_, h1, rfl⟩
                · exact absurd h1 (by omega)
                · rw [show tkB 0 jb.data.toList = some us' from hus1] at h1; cases h1
                rw [show tkB 0 jb.data.toList = some us' from hus1] at h1
                injection h1 with h1
                subst h1
                obtain ⟨M, hM⟩ : ∃ M, M = us'.map toTk := ⟨_, rfl⟩
                have HK : Hid (SameKT M L) := Lib.hid (by rw [hM, HL.out]; exact sameKT_of hus2)
                have HMs : Hid (∀ x ∈ M, x.s.size ≤ 20000) := Lib.hid fun x hx => by
                  rw [hM] at hx
                  have := tk_small hus1 x hx
                  omega
                rw [← hM] at ho
                obtain ⟨A3, c3, rfl, hr3⟩ := ho.reads
                have H3 := Lib.hid (And.intro (H2.out.1.below hb hb.size) (And.intro hr3 (thn H2.out.2 hb)))
                have hMl := HK.out.len
                have hMl4 : M.length ≤ 4000 := by omega
                have hMd : ((M.length : Int) != (L.length : Int)) = false := by rw [hMl]; simp
                have HMl := Lib.hid hMl
                clear ho hr3 hb hus1 hus2 hM H2 hMl
                go_wp2_with fail
                go_loopw [18] (fun j wr => ∃ (k3 n3 : Nat), k3 ≤ M.length ∧ j = .int .i64 k3 ∧ wr = w3.drewN n3) (fun j _ => M.length - (intOf j).toNat)
                case atStart => exact ⟨0, 0, Nat.zero_le _, rfl, rfl⟩
                case round =>
                  obtain ⟨k3, n3, hk3, rfl, rfl⟩ := hrel
                  by_cases hlt3 : k3 < M.length
                  · have hlt3i : (k3 : Int) < (M.length : Int) := by omega
                    have hlt3L : k3 < L.length := by rw [← HMl.out]; exact hlt3
                    have hlt3Li : (k3 : Int) < (L.length : Int) := by omega
                    obtain ⟨b, o, rfl, hb, c0, c1, c2⟩ := H3.out.1.at_ hlt3L
                    obtain ⟨b', o', rfl, hb', d0, d1, d2⟩ := H3.out.2.1.at_ hlt3
                    obtain ⟨z1, z2⟩ := HK.out.at_ hlt3 hlt3L
                    rw [z1] at d0
                    rw [z2] at d1
                    clear z1 z2
                    generalize L[k3] = x at *
                    generalize M[k3] = x2 at *
                    obtain ⟨xk, xs, xa⟩ := x
                    simp only at c0 c1 c2 d0 d1
                    go_wp2_with fail
                    go_quiet (fail)
                    go_wp2_with fail
                    go_roundw
                    case rel => exact ⟨k3 + 1, _, by omega, by go_num, rfl⟩
                    case measure => simp [intOf]; omega
                  · have hlf3 : decide ((k3 : Int) < (M.length : Int)) = false := decide_eq_false (by omega)
                    have HB3 := Lib.hid (below_drewN H3.out.2.2 n3)
                    have HG3 := Lib.hid (HG.out.thn HB3.out)
                    have hjoin := PJoin_any A3 c3 M (w3.drewN n3) HG3.out H3.out.2.1 HMs.out (by omega)
                    have hte : M.map Tk.s = L.map Tk.s := by
                      have h := congrArg (List.map Prod.snd) HK.out
                      rw [List.map_map, List.map_map] at h
                      exact h
                    rw [hte, ← HJe.out] at hjoin
                    have HJ := Lib.hid hjoin
                    clear hjoin hte
                    go_wp2_with fail
                    refine HJ.out.mono ?_
                    rintro e w4 ⟨rfl, hb4⟩
                    have H4 := Lib.hid (thn HB3.out hb4)
                    have HG4 := Lib.hid (HG.out.thn H4.out)
                    clear hb4 HJ
                    go_wp2_with fail
                    refine (awake8_any _ HG4.out).mono ?_
                    rintro e w5 ⟨rfl, hb5⟩
                    have H5 := Lib.hid (thn H4.out hb5)
                    clear hb5
                    go_wp2_with fail
                    go_ret
                    exact ⟨rfl, H5.out⟩
              · have hjd : decide ((4000 : Int) < (jb.size : Int)) = true := decide_eq_true (by omega)
                go_wp2_with fail
                refine (awake8_any _ HG2.out).mono ?_
                rintro e w3 ⟨rfl, hb3⟩
                have H3 := Lib.hid (thn H2.out.2 hb3)
                clear hb3
                go_wp2_with fail
                go_ret
                exact ⟨rfl, H3.out⟩
end Go.Proofs.YtphgbfgccagcbaaGreatDoor
