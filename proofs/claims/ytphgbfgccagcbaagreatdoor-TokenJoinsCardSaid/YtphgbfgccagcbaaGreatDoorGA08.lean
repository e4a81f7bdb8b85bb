/-
  PkM: MATHEMATICS for package token: how its walk over a string makes the tokens of the definition. No program stands in it.
  PkF: CONTRACTS of package token: quoted, kindOfText.
-/
import Derived.Test.YtphgbfgccagcbaaGreatDoorGA07
import Derived.Lib.Case
import Derived.Lib.SlTrimSet
import Derived.Test.YtphgbfgccagcbaaGreatDoorGA06
import Derived.Test.YtphgbfgccagcbaaGreatDoorGA03
namespace Go.Proofs.YtphgbfgccagcbaaGreatDoor
open Go.RowKit

theorem one_signed {l x : List UInt8} (h : Tok.signOf l Tok.signs = some x) : oneB l = some (5, x) := by
  obtain ⟨r, hr⟩ := Tok.pre_at (Tok.sign_pre h).2
  obtain ⟨h1, h2, h3⟩ := Tok.sign_run h r
  rw [one_sign_eq (by rw [hr]; simp [h1]) (by
    intro e
    rw [hr] at e
    cases x with
    | nil => exact h1 rfl
    | cons c y => exact (h3 c rfl).1 (by simpa using e)) (by rw [hr]; exact h2), h]
  rfl
theorem quoG_quote : ∀ l : List UInt8, Tok.quoG (quote l ++ [39]) = (quote l).length + 1
  | [] => by simp [quote, Tok.quoG]
  | c :: l => by
    have ih := quoG_quote l
    rw [quote_cons]
    by_cases h : c = 39
    · subst h
      rw [if_pos rfl]
      show Tok.quoG (39 :: 39 :: (quote l ++ [39])) = _
      rw [quoG_two, ih, if_neg (by omega)]
      simp
    · rw [if_neg h]
      show Tok.quoG (c :: (quote l ++ [39])) = _
      rw [quoG_ne h, ih, if_neg (by omega)]
      simp
theorem parses_text {s : ByteArray} (hp : parses s = true) (h39 : s.data.toList.head? = some 39) : isTx s.data.toList = true ∧ quo s.data.toList = s.size := by
  rcases parses_cases hp with e | e | e | ⟨n, _, e⟩ | ⟨l, hl, e⟩
  · subst e; exact absurd h39 (by decide)
  · subst e; exact absurd h39 (by decide)
  · subst e; exact absurd h39 (by decide)
  · obtain ⟨c, t, hc, _⟩ := itoa_head n
    rw [← e, hc] at h39
    injection h39 with h39
    subst h39
    exact absurd hc (itoa_no39 n t)
  · have hb := Ans.bytes (s := s) (q := ⟨l.toArray⟩) (by simpa using hl) (by
      have : s = ⟨s.data.toList.toArray⟩ := (ba_of s).symm
      rw [this, e])
    refine ⟨by rw [isTx_of, hb.1, hb.2]; rfl, ?_⟩
    have hz : s.data.toList.length = s.size := Array.length_toList
    rw [← hz, e]
    unfold quo
    show (if Tok.quoG (quote l ++ [39]) = 0 then 0 else Tok.quoG (quote l ++ [39]) + 1) = _
    rw [quoG_quote, if_neg (by omega)]
    simp
/-- how much the program takes for a text -/
def quoP (l : List UInt8) : Nat := if quo l = 0 then l.length else quo l
theorem quoP_le (l : List UInt8) (h : l ≠ []) : 0 < quoP l ∧ quoP l ≤ l.length := by
  have h1 := quo_le l h
  have h2 : 0 < l.length := List.length_pos_iff.2 h
  unfold quoP
  split <;> omega
theorem extract_all (s : ByteArray) : s.extract 0 s.size = s := by
  have : (s.extract 0 s.size).data.toList = s.data.toList := by
    rw [extT, List.take_of_length_le (by rw [Array.length_toList]; exact Nat.le_refl _)]
  rw [← ba_of (s.extract 0 s.size), this, ba_of]
theorem first_text {s : ByteArray} (h39 : s.data.toList.head? = some 39) : oneB s.data.toList = if parses (s.extract 0 (quoP s.data.toList)) then some (4, s.data.toList.take (quoP s.data.toList)) else none := by
  have hne : s.data.toList ≠ [] := fun e => by rw [e] at h39; cases h39
  have hle := quo_le _ hne
  have hz : s.data.toList.length = s.size := Array.length_toList
  unfold quoP
  by_cases hq : quo s.data.toList = 0
  · rw [if_pos hq, one_tx_none h39 (.inl hq), hz, extract_all]
    cases hp : parses s with
    | false => rfl
    | true =>
      have := (parses_text hp h39).2
      have h0 : 0 < s.data.toList.length := List.length_pos_iff.2 hne
      omega
  · rw [if_neg hq]
    have hx : (s.extract 0 (quo s.data.toList)).data.toList = s.data.toList.take (quo s.data.toList) := extT _ _
    have hh : (s.extract 0 (quo s.data.toList)).data.toList.head? = some 39 := by
      rw [hx]
      cases hl : s.data.toList with
      | nil => exact absurd hl hne
      | cons c r =>
        rw [hl] at h39 hq
        obtain ⟨m, hm⟩ : ∃ m, quo (c :: r) = m + 1 := ⟨quo (c :: r) - 1, by omega⟩
        rw [hm]
        exact h39
    cases hp : parses (s.extract 0 (quo s.data.toList)) with
    | true =>
      rw [if_pos rfl]
      exact one_tx_some h39 hq (by rw [← hx]; exact (parses_text hp hh).1)
    | false =>
      rw [if_neg (by decide)]
      exact one_tx_none h39 (.inr (by rw [← hx, isTx_of, hp]; rfl))
/-- all letters, digits and _ -/
def csR : List UInt8 := [97, 98, 99, 100, 101, 102, 103, 104, 105, 106, 107, 108, 109, 110, 111, 112, 113, 114, 115, 116, 117, 118, 119, 120, 121, 122, 65, 66, 67, 68, 69, 70, 71, 72, 73, 74, 75, 76, 77, 78, 79, 80, 81, 82, 83, 84, 85, 86, 87, 88, 89, 90, 48, 49, 50, 51, 52, 53, 54, 55, 56, 57, 95]
/-- the small letters, digits and _ -/
def csT : List UInt8 := [97, 98, 99, 100, 101, 102, 103, 104, 105, 106, 107, 108, 109, 110, 111, 112, 113, 114, 115, 116, 117, 118, 119, 120, 121, 122, 48, 49, 50, 51, 52, 53, 54, 55, 56, 57, 95]
/-- the small letters -/
def csS : List UInt8 := [97, 98, 99, 100, 101, 102, 103, 104, 105, 106, 107, 108, 109, 110, 111, 112, 113, 114, 115, 116, 117, 118, 119, 120, 121, 122]
theorem byte_all {p : UInt8 → Prop} (h : ∀ i : Fin 256, p (UInt8.ofNat i.1)) (c : UInt8) : p c := by
  have := h ⟨c.toNat, c.toNat_lt⟩
  simpa using this
theorem csR_has (c : UInt8) : csR.contains c = Tok.inNm (Tok.sml c) := byte_all (p := fun c => csR.contains c = Tok.inNm (Tok.sml c)) (by decide +kernel) c
theorem csT_has (c : UInt8) : csT.contains c = Tok.inNm c := byte_all (p := fun c => csT.contains c = Tok.inNm c) (by decide +kernel) c
theorem lower_sml (c : UInt8) : Lib.lowerB c = Tok.sml c := byte_all (p := fun c => Lib.lowerB c = Tok.sml c) (by decide +kernel) c
theorem drop_le {p : UInt8 → Bool} : ∀ l : List UInt8, (l.dropWhile p).length ≤ l.length
  | [] => Nat.le_refl _
  | c :: l => by
    rw [List.dropWhile_cons]
    split
    · have := drop_le (p := p) l; simp; omega
    · exact Nat.le_refl _
/-- the run at the beginning, as the program takes it -/
def runP (l : List UInt8) : List UInt8 := l.take (l.length - (Lib.trimLeftS l csR).length)
theorem run_eq : ∀ l : List UInt8, Lib.toLowerA (runP l) = Tok.run l
  | [] => rfl
  | c :: l => by
    have ih := run_eq l
    have hd := drop_le (p := fun x => csR.contains x) l
    unfold runP Lib.trimLeftS at ih ⊢
    rw [List.dropWhile_cons, Tok.run, csR_has]
    by_cases h : Tok.inNm (Tok.sml c) = true
    · rw [if_pos h, if_pos h, List.length_cons, Nat.succ_sub hd, List.take_succ_cons]
      unfold Lib.toLowerA at ih ⊢
      rw [List.map_cons, ih, lower_sml]
    · rw [if_neg h, if_neg h, Nat.sub_self]
      rfl
theorem runP_len (l : List UInt8) : (runP l).length = (Tok.run l).length := by
  rw [← run_eq]; simp [Lib.toLowerA]
theorem runP_ascii (l : List UInt8) : ∀ c ∈ runP l, c.toNat < 128 := by
  have key : ∀ l : List UInt8, ∀ c ∈ runP l, csR.contains c = true := by
    intro l
    induction l with
    | nil => intro c hc; cases hc
    | cons d l ih =>
      intro c hc
      have hd := drop_le (p := fun x => csR.contains x) l
      unfold runP Lib.trimLeftS at hc ih
      rw [List.dropWhile_cons] at hc
      by_cases h : csR.contains d = true
      · rw [if_pos h, List.length_cons, Nat.succ_sub hd, List.take_succ_cons] at hc
        rcases List.mem_cons.1 hc with rfl | hc
        · exact h
        · exact ih c hc
      · rw [if_neg h, Nat.sub_self] at hc
        cases hc
  intro c hc
  have h := key l c hc
  have := byte_all (p := fun c => csR.contains c = true → c.toNat < 128) (by decide +kernel) c
  exact this h
theorem drop_nil_iff {p : UInt8 → Bool} : ∀ l : List UInt8, l.dropWhile p = [] ↔ ∀ c ∈ l, p c = true
  | [] => by simp
  | c :: l => by
    have ih := drop_nil_iff (p := p) l
    rw [List.dropWhile_cons]
    by_cases h : p c = true
    · rw [if_pos h, ih]
      simp [h]
    · rw [if_neg h]
      simp [h]
theorem trim_nil (l cs : List UInt8) : Lib.trimS l cs = [] ↔ ∀ c ∈ l, cs.contains c = true := by
  unfold Lib.trimS Lib.trimLeftS Lib.trimRightS
  rw [drop_nil_iff]
  constructor
  · intro h
    have hm : l.reverse.dropWhile (cs.contains ·) = [] := by
      cases hx : l.reverse.dropWhile (cs.contains ·) with
      | nil => rfl
      | cons c r =>
        have h1 := h c (by rw [hx]; simp)
        have h2 := List.head_dropWhile_not (fun x => cs.contains x) (l := l.reverse) (by rw [hx]; simp)
        simp only [hx, List.head_cons] at h2
        rw [h1] at h2
        cases h2
    rw [drop_nil_iff] at hm
    intro c hc
    exact hm c (List.mem_reverse.2 hc)
  · intro h c hc
    have : c ∈ l.reverse.dropWhile (cs.contains ·) := List.mem_reverse.1 hc
    exact h c (List.mem_reverse.1 ((List.dropWhile_sublist _).subset this))
theorem formed_eq (l : List UInt8) (h1 : l.length ≤ 20) {c : UInt8} {r : List UInt8} (hl : l = c :: r) (h2 : 97 ≤ c.toNat ∧ c.toNat ≤ 122) : formed l = decide (Lib.trimS l csT = []) := by
  by_cases h : ∀ x ∈ l, Tok.inNm x = true
  · rw [decide_eq_true ((trim_nil l csT).2 fun x hx => by rw [csT_has]; exact h x hx)]
    subst hl
    exact formed_all h1 h2 h
  · rw [decide_eq_false (fun e => h fun x hx => by rw [← csT_has]; exact (trim_nil l csT).1 e x hx)]
    have : ∃ x ∈ l, Tok.inNm x = false := by
      apply Classical.byContradiction
      intro hn
      exact h fun x hx => by
        cases hb : Tok.inNm x with
        | true => rfl
        | false => exact absurd ⟨x, hx, hb⟩ hn
    obtain ⟨x, hx, hb⟩ := this
    exact formed_bad hx hb
theorem formed_nil : formed [] = false := rfl
theorem run_all : ∀ (l : List UInt8), ∀ c ∈ Tok.run l, Tok.inNm c = true
  | [], c, h => by simp [Tok.run] at h
  | d :: l, c, h => by
    rw [Tok.run] at h
    split at h
    · rename_i hd
      rcases List.mem_cons.1 h with rfl | h
      · exact hd
      · exact run_all l c h
    · cases h
theorem num_eq {s : ByteArray} (h : ∀ c ∈ s.data.toList, Tok.inNm c = true) : isNu s.data.toList = (parses s && decide ((readV s).k = 1)) := by
  cases hn : isNu s.data.toList with
  | true =>
    obtain ⟨n, h0, h1, e⟩ := isNu_iff.1 hn
    have hp := parses_num n ⟨by omega, h1⟩
    have es : (⟨(Lib.itoa n).toArray⟩ : ByteArray) = s := by rw [e]
    rw [es] at hp
    rw [hp.1, hp.2]
    rfl
  | false =>
    cases hp : parses s with
    | false => rfl
    | true =>
      by_cases hk : (readV s).k = 1
      · exfalso
        rcases parses_cases hp with e | e | e | ⟨n, hi, e⟩ | ⟨l, hl, e⟩
        · rw [e, parses_null.2] at hk; cases hk
        · rw [e, parses_false.2] at hk; cases hk
        · rw [e, parses_true.2] at hk; cases hk
        · have e2 : Lib.itoa n = s.data.toList := by rw [← e]
          by_cases h0 : 0 ≤ n
          · have := isNu_iff.2 ⟨n, h0, hi.2, e2⟩
            rw [hn] at this; cases this
          · have : (45 : UInt8) ∈ s.data.toList := by
              rw [← e2]; unfold Lib.itoa; rw [if_pos (by omega)]; simp
            have := h _ this
            revert this; decide
        · have : (39 : UInt8) ∈ s.data.toList := by rw [e]; simp
          have := h _ this
          revert this; decide
      · rw [decide_eq_false hk]; rfl
theorem parses_empty : parses ⟨#[]⟩ = false := by
  cases hp : parses ⟨#[]⟩ with
  | false => rfl
  | true =>
    rcases parses_cases hp with e | e | e | ⟨n, hi, e⟩ | ⟨l, hl, e⟩
    · revert e; decide
    · revert e; decide
    · revert e; decide
    · obtain ⟨c, t, hc, _⟩ := itoa_head n
      have : Lib.itoa n = [] := congrArg (fun x : ByteArray => x.data.toList) e
      rw [hc] at this; cases this
    · cases e
/-- what the program says of a run -/
def kindR (t : ByteArray) : Nat := if isWd t.data.toList then 1 else if formed t.data.toList then 2 else if parses t && decide ((readV t).k = 1) then 3 else 0
theorem isWd_nil : isWd [] = false := by decide +kernel
theorem first_run {l : List UInt8} {t : ByteArray} (ht : t.data.toList = Tok.run l) (hl : l ≠ []) (h39 : l.head? ≠ some 39) (hs : Tok.signOf l Tok.signs = none) :
    oneB l = if kindR t = 0 then none else some (kindR t, t.data.toList) := by
  have hnu := num_eq (s := t) (by rw [ht]; exact run_all l)
  unfold kindR
  rw [← hnu, ht]
  by_cases hr : Tok.run l = []
  · rw [one_sign_eq hl h39 hr, hs, hr, isWd_nil, formed_nil]
    have : isNu [] = false := by
      have h2 := hnu
      rw [ht, hr] at h2
      have et : t = ⟨#[]⟩ := by rw [← ba_of t, ht, hr]
      rw [h2, et, parses_empty]; rfl
    rw [this]
    rfl
  · rw [one_run_eq h39 hr]
    cases isWd (Tok.run l) <;> cases formed (Tok.run l) <;> cases isNu (Tok.run l) <;> rfl
end Go.Proofs.YtphgbfgccagcbaaGreatDoor
namespace Go.Proofs.YtphgbfgccagcbaaGreatDoor
open Go.RowKit

set_option maxHeartbeats 1000000 in
theorem quotedP_any (s : ByteArray) (w : World) (hs : s.size ≤ 20000) (h0 : 0 < s.size) : Calls Tryz.prog 49 #[.string s] w fun e w' => e = .returned (.int .i64 (quoP s.data.toList : Nat)) ∧ w = w' := by
  go_enter Tryz.func49, Tryz.ntmps49
  go_wp2_with fail
  go_loop [3] (fun i => ∃ k : Nat, k ≤ s.size ∧ 1 ≤ k ∧ i = .int .i64 k ∧ Hid (quo s.data.toList = if Tok.quoG (s.data.toList.drop k) = 0 then 0 else Tok.quoG (s.data.toList.drop k) + k)) (fun i => s.size - (intOf i).toNat)
  case atStart => exact ⟨1, h0, Nat.le_refl _, rfl, Lib.hid rfl⟩
  case round =>
    obtain ⟨k, hk, hk1, rfl, HI⟩ := hrel
    by_cases hlt : k < s.size
    · have hlti : (k : Int) < (s.size : Int) := by omega
      have HD := Lib.hid (dropc s k hlt)
      by_cases hc : (s[k].toNat : Int) = 39
      · have hce : ((s[k].toNat : Int) != 39) = false := by simp [hc]
        have HC := Lib.hid (eq39 hc)
        clear hc
        by_cases hl2 : k + 1 < s.size
        · have hl2i : (k : Int) + 1 < (s.size : Int) := by omega
          have hl3 : ((k : Int) + 1 == (s.size : Int)) = false := beq_eq_false_iff_ne.2 (by omega)
          have HD2 := Lib.hid (dropc s (k + 1) hl2)
          have hidx : (k : Int) + 1 = ((k + 1 : Nat) : Int) := by omega
          by_cases hd : (s[k + 1].toNat : Int) = 39
          · have hde : ((s[k + 1].toNat : Int) != 39) = false := by simp [hd]
            have HC2 := Lib.hid (eq39 hd)
            clear hd hidx
            have HN : Hid (quo s.data.toList = if Tok.quoG (s.data.toList.drop (k + 2)) = 0 then 0 else Tok.quoG (s.data.toList.drop (k + 2)) + (k + 2)) := Lib.hid (by
              rw [HI.out, HD.out, HD2.out, HC.out, HC2.out, quoG_two, ite_step])
            go_wp2_with fail
            go_round
            case rel => exact ⟨k + 2, by omega, by omega, by go_num, HN⟩
            case measure => simp [intOf]; omega
          · have hde : ((s[k + 1].toNat : Int) != 39) = true := by simp [hd]
            have HC2 := Lib.hid (ne39 hd)
            clear hd hidx
            have HN : Hid (quoP s.data.toList = k + 1) := Lib.hid (by
              have : quo s.data.toList = k + 1 := by
                rw [HI.out, HD.out, HD2.out, HC.out, quoG_end (fun r e => by injection e with e _; exact HC2.out e), if_neg (by decide)]
                omega
              unfold quoP
              rw [this, if_neg (by omega)])
            go_wp2_with fail
            go_ret
            exact ⟨by rw [HN.out]; rfl, rfl⟩
        · have hl3 : ((k : Int) + 1 == (s.size : Int)) = true := beq_iff_eq.2 (by omega)
          have HN : Hid (quoP s.data.toList = k + 1) := Lib.hid (by
            have : quo s.data.toList = k + 1 := by
              rw [HI.out, HD.out, HC.out, List.drop_eq_nil_of_le (by rw [Array.length_toList]; show s.size ≤ k + 1; omega), quoG_end (fun r e => by cases e), if_neg (by decide)]
              omega
            unfold quoP
            rw [this, if_neg (by omega)])
          go_wp2_with fail
          go_ret
          exact ⟨by rw [HN.out]; rfl, rfl⟩
      · have hce : ((s[k].toNat : Int) != 39) = true := by simp [hc]
        have HC := Lib.hid (ne39 hc)
        clear hc
        have HN : Hid (quo s.data.toList = if Tok.quoG (s.data.toList.drop (k + 1)) = 0 then 0 else Tok.quoG (s.data.toList.drop (k + 1)) + (k + 1)) := Lib.hid (by
          rw [HI.out, HD.out, quoG_ne HC.out, ite_step])
        go_wp2_with fail
        go_round
        case rel => exact ⟨k + 1, by omega, by omega, by go_num, HN⟩
        case measure => simp [intOf]; omega
    · have hlf : decide ((k : Int) < (s.size : Int)) = false := decide_eq_false (by omega)
      have HN : Hid (quoP s.data.toList = s.size) := Lib.hid (by
        have : quo s.data.toList = 0 := by
          rw [HI.out, List.drop_eq_nil_of_le (by rw [Array.length_toList]; show s.size ≤ k; omega)]
          rfl
        unfold quoP
        rw [this, if_pos rfl]
        exact Array.length_toList)
      go_wp2_with fail
      go_ret
      exact ⟨by rw [HN.out]; rfl, rfl⟩
/-- the kind of a text, or 0 -/
def kindT (s : ByteArray) : Nat := if parses s then 4 else 0
set_option maxHeartbeats 1000000 in
theorem kindOfText_any (s : ByteArray) (w : World) (hG : GT w) (hs : s.size ≤ 20000) : Calls Tryz.prog 50 #[.string s] w fun e w' => e = .returned (.int .i64 (kindT s : Nat)) ∧ Below w.heap.size w w' := by
  have HG := Lib.hid hG
  clear hG
  unfold kindT
  cases hp : parses s with
  | true =>
    have HP := Lib.hid hp
    clear hp
    go_enter Tryz.func50, Tryz.ntmps50
    go_wp2_with fail
    refine (Parse_yes s _ HG.out.e hs HP.out).mono ?_
    rintro e w1 ⟨rfl, hb1⟩
    have W1 := Lib.hid hb1
    clear hb1
    go_wp2_with fail
    go_ret
    exact ⟨rfl, al W1.out _⟩
  | false =>
    have HP := Lib.hid hp
    clear hp
    go_enter Tryz.func50, Tryz.ntmps50
    go_wp2_with fail
    refine (Parse_no s _ HG.out.e hs HP.out).mono ?_
    rintro e w1 ⟨rfl, hb1⟩
    have W1 := Lib.hid hb1
    clear hb1
    go_wp2_with fail
    go_ret
    exact ⟨rfl, al W1.out _⟩
end Go.Proofs.YtphgbfgccagcbaaGreatDoor
