/-
  RPu: CONTRACT of the reference's Put, and of the law's ints.
  RCo: CONTRACTS of the reference's Columns, and of the law's ints.
  Clv: MATHEMATICS: the columns of an expression are those of its leaves.
-/
import Derived.Test.YtdiehgfldndgbaaGreatDoorGB27
import Derived.Deep.RegionHeld3
import Derived.BigQuiet
import Derived.Test.YtdiehgfldndgbaaGreatDoorGB23
namespace Go.Proofs.YtdiehgfldndgbaaGreatDoor
open Go.RowKit Go.Deep

/-- a round of Put -/
def stP (n : Int) (s : List Int × Bool) (x : Int) : List Int × Bool :=
  if s.2 = false ∧ n ≤ x then (if x = n then (s.1 ++ [n], true) else (s.1 ++ [n] ++ [x], true)) else if x = n then s else (s.1 ++ [x], s.2)
def putR (l : List Int) (n : Int) : List Int := if (l.foldl (stP n) ([], false)).2 = true then (l.foldl (stP n) ([], false)).1 else (l.foldl (stP n) ([], false)).1 ++ [n]
theorem stP_done (n : Int) : ∀ (l acc : List Int), (∀ x ∈ l, n < x) → l.foldl (stP n) (acc, true) = (acc ++ l, true)
  | [], acc, _ => by simp
  | x :: l, acc, h => by
    have hx := h x (List.mem_cons_self ..)
    rw [List.foldl_cons, show stP n (acc, true) x = (acc ++ [x], true) by unfold stP; rw [if_neg (by simp), if_neg (by omega)], stP_done n l _ fun y hy => h y (List.mem_cons_of_mem _ hy), List.append_assoc]; rfl
theorem stP_open (n : Int) : ∀ (l acc : List Int), l.Pairwise (· < ·) → (if (l.foldl (stP n) (acc, false)).2 = true then (l.foldl (stP n) (acc, false)).1 else (l.foldl (stP n) (acc, false)).1 ++ [n]) = acc ++ putN l n
  | [], acc, _ => by simp [putN]
  | x :: l, acc, h => by
    rw [List.pairwise_cons] at h
    rw [List.foldl_cons, putN]
    by_cases h1 : n < x
    · rw [show stP n (acc, false) x = (acc ++ [n] ++ [x], true) by unfold stP; rw [if_pos ⟨rfl, by omega⟩, if_neg (by omega)], stP_done n l _ fun y hy => by have := h.1 y hy; omega, if_pos h1]
      simp
    · by_cases h2 : n = x
      · rw [show stP n (acc, false) x = (acc ++ [n], true) by unfold stP; rw [if_pos ⟨rfl, by omega⟩, if_pos h2.symm], stP_done n l _ fun y hy => by have := h.1 y hy; omega, if_neg h1, if_pos h2]
        simp [h2]
      · rw [show stP n (acc, false) x = (acc ++ [x], false) by unfold stP; rw [if_neg (by omega), if_neg (by omega)], if_neg h1, if_neg h2, stP_open n l _ h.2]
        simp
theorem putR_eq {l : List Int} (n : Int) (h : l.Pairwise (· < ·)) : putR l n = putN l n := by
  have := stP_open n l [] h
  simpa [putR] using this
set_option maxHeartbeats 4000000 in
set_option maxRecDepth 100000 in
theorem RPut_any (A : Option Addr) (c : Nat) (l : List Int) (n : Int) (w : World) (hA : IRd w (Lo w.heap.size) A l) (hn : l.length ≤ 100000) :
    Calls Tryz.prog 65 #[.slice A l.length c, .int .i64 n] w fun x w' => ∃ v, x = .returned v ∧ w'.ownsRow w.heap.size 3 1 v (putR l n).length (icells (putR l n)) ∧ Below w.heap.size w w' := by
  have HA := Lib.hid hA
  obtain ⟨i0, hi, hz0, hz1, hz2⟩ := info_parts infoInt
  have HTk : Hid (∀ k (h : k < l.length), (l.take (k + 1)).foldl (stP n) ([], false) = stP n ((l.take k).foldl (stP n) ([], false)) l[k]) := Lib.hid fun k h => by
    rw [List.take_succ_eq_append_getElem h, List.foldl_append]; rfl
  clear hA
  go_enter Tryz.func65, Tryz.ntmps65
  go_wp2_with fail
  go_loopw [5, 6, 7] (fun v dv iv wr => ∃ (k : Nat) (acc : List Int) (dn : Bool), k ≤ l.length ∧ iv = .int .i64 k ∧ dv = .bool dn ∧ acc.length ≤ 2 * k ∧ Hid ((l.take k).foldl (stP n) ([], false) = (acc, dn)) ∧ Hid (wr.ownsRow w.heap.size 3 1 v acc.length (icells acc) ∧ Below w.heap.size w wr)) (fun _ _ iv _ => l.length - (intOf iv).toNat)
  case atStart => exact ⟨0, [], false, Nat.zero_le _, rfl, rfl, Nat.le_refl _, Lib.hid rfl, Lib.hid ⟨⟨rfl, .inl ⟨rfl, rfl⟩⟩, Below.refl _ _⟩⟩
  case round =>
    obtain ⟨k, acc, dn, hk, rfl, rfl, hal, HF, HW⟩ := hrel
    by_cases hlt : k < l.length
    · have hlti : (k : Int) < (l.length : Int) := by omega
      have hk0 : (0 : Int) ≤ (k : Int) := by omega
      obtain ⟨b, o, rfl, hb, hc⟩ := HA.out.at_ hlt
      have hcr : wr.cell? ⟨b, o + k, none⟩ = some (.int .i64 l[k]) := (HW.out.2.cell (p := ⟨b, o + k, none⟩) hb).trans hc
      have HN : Hid (∀ acc' dn', stP n (acc, dn) l[k] = (acc', dn') → (l.take (k + 1)).foldl (stP n) ([], false) = (acc', dn')) := Lib.hid fun acc' dn' h => by rw [HTk.out k hlt, HF.out]; exact h
      have HH : Hid (∀ ob, (wr.alloc ob).cell? ⟨b, o + k, none⟩ = some (.int .i64 l[k])) := Lib.hid fun ob => ((al (HW.out.2) ob).cell (p := ⟨b, o + k, none⟩) hb).trans hc
      have hbw := HW.out.2.size
      clear hc HF
      generalize l[k] = x at *
      have HO := Lib.hid HW.out.1
      have HB := Lib.hid HW.out.2
      have HBl := Lib.hid hb
      clear HW hb
      cases dn
      · by_cases h1 : n ≤ x
        · by_cases h2 : x = n
          · have HM := Lib.hid (HN.out (acc ++ [n]) true (by unfold stP; rw [if_pos ⟨rfl, h1⟩, if_pos h2]))
            have e1 : decide (n ≤ x) = true := decide_eq_true h1
            have e2 : (x != n) = false := by simp [h2]
            clear HN h1
            go_wp2_with (at_builtin; refine wpList_append_any _ rfl (.tmp 24) (.tmp 26) 39 rfl w.heap.size 3 i0 (.int .i64 0) 1 8 Tryz.underlying39 hi hz0 hz1 hz2 rfl (by decide) _ _ _ rfl (own_below HO.out (al (Below.refl _ _) _)) (wr.heap.size + 1) _ 1 1 (icells [n]) rfl ?c0 ?c1 ?c2 ?c3 ?c4 ?_)
            case c0 => exact Reads.int (Blk.new' (g := wr.heap.size) (by simp)) (Nat.lt_succ_self _)
            case c1 => exact icells_one _
            case c2 => unfold maxLen; omega
            case c3 => omega
            case c4 => first | omega | (simp; omega)
            intro v1 w1 hown1 hgrow _
            have HN1 : Hid (w1.ownsRow w.heap.size 3 1 v1 (acc ++ [n]).length (icells (acc ++ [n])) ∧ Below w.heap.size w w1) := Lib.hid ⟨by rw [icells_append, List.length_append]; exact hown1, (al HB.out _).grown hgrow (by simp; omega) (own_base HO.out)⟩
            have y1 : w1.cell? ⟨b, o + k, none⟩ = some (.int .i64 x) := (HN1.out.2.cell (p := ⟨b, o + k, none⟩) HBl.out).trans ((HB.out.cell (p := ⟨b, o + k, none⟩) HBl.out).symm.trans hcr)
            clear hown1 hgrow
            go_wp2_with fail
            go_roundw
            case rel => exact ⟨k + 1, acc ++ [n], true, by omega, by go_num, rfl, by simp; omega, HM, HN1⟩
            case measure => simp [intOf]; omega
          · have HM := Lib.hid (HN.out (acc ++ [n] ++ [x]) true (by unfold stP; rw [if_pos ⟨rfl, h1⟩, if_neg h2]))
            have e1 : decide (n ≤ x) = true := decide_eq_true h1
            have e2 : (x != n) = true := by simp [h2]
            clear HN h1
            go_wp2_with (at_builtin; refine wpList_append_any _ rfl (.tmp 24) (.tmp 26) 39 rfl w.heap.size 3 i0 (.int .i64 0) 1 8 Tryz.underlying39 hi hz0 hz1 hz2 rfl (by decide) _ _ _ rfl (own_below HO.out (al (Below.refl _ _) _)) (wr.heap.size + 1) _ 1 1 (icells [n]) rfl ?c0 ?c1 ?c2 ?c3 ?c4 ?_)
            case c0 => exact Reads.int (Blk.new' (g := wr.heap.size) (by simp)) (Nat.lt_succ_self _)
            case c1 => exact icells_one _
            case c2 => unfold maxLen; omega
            case c3 => omega
            case c4 => first | omega | (simp; omega)
            intro v1 w1 hown1 hgrow _
            have HN1 : Hid (w1.ownsRow w.heap.size 3 1 v1 (acc ++ [n]).length (icells (acc ++ [n])) ∧ Below w.heap.size w w1) := Lib.hid ⟨by rw [icells_append, List.length_append]; exact hown1, (al HB.out _).grown hgrow (by simp; omega) (own_base HO.out)⟩
            have y1 : w1.cell? ⟨b, o + k, none⟩ = some (.int .i64 x) := (HN1.out.2.cell (p := ⟨b, o + k, none⟩) HBl.out).trans ((HB.out.cell (p := ⟨b, o + k, none⟩) HBl.out).symm.trans hcr)
            have hl1 : (acc ++ [n]).length ≤ 2 * k + 1 := by simp; omega
            have hbw1 := HN1.out.2.size
            clear hown1 hgrow
            generalize acc ++ [n] = acc1 at *
            go_wp2_with (at_builtin; refine wpList_append_any _ rfl (.tmp 34) (.tmp 39) 39 rfl w.heap.size 3 i0 (.int .i64 0) 1 8 Tryz.underlying39 hi hz0 hz1 hz2 rfl (by decide) _ _ _ rfl (own_below HN1.out.1 (al (Below.refl _ _) _)) (w1.heap.size + 1) _ 1 1 (icells [x]) rfl ?c0 ?c1 ?c2 ?c3 ?c4 ?_)
            case c0 => exact Reads.int (Blk.new' (g := w1.heap.size) (by simp)) (Nat.lt_succ_self _)
            case c1 => exact icells_one _
            case c2 => unfold maxLen; omega
            case c3 => omega
            case c4 => first | omega | (simp; omega)
            intro v2 w2 hown2 hgrow2 _
            have HN2 : Hid (w2.ownsRow w.heap.size 3 1 v2 (acc1 ++ [x]).length (icells (acc1 ++ [x])) ∧ Below w.heap.size w w2) := Lib.hid ⟨by rw [icells_append, List.length_append]; exact hown2, (al HN1.out.2 _).grown hgrow2 (by simp; omega) (own_base HN1.out.1)⟩
            clear hown2 hgrow2
            go_wp2_with fail
            go_roundw
            case rel => exact ⟨k + 1, acc1 ++ [x], true, by omega, by go_num, rfl, by simp; omega, HM, HN2⟩
            case measure => simp [intOf]; omega
        · have h2 : x ≠ n := by omega
          have HM := Lib.hid (HN.out (acc ++ [x]) false (by unfold stP; rw [if_neg (fun h => h1 h.2), if_neg h2]))
          have e1 : decide (n ≤ x) = false := decide_eq_false h1
          have e2 : (x != n) = true := by simp [h2]
          clear HN
          go_wp2_with (at_builtin; refine wpList_append_any _ rfl (.tmp 34) (.tmp 39) 39 rfl w.heap.size 3 i0 (.int .i64 0) 1 8 Tryz.underlying39 hi hz0 hz1 hz2 rfl (by decide) _ _ _ rfl (own_below HO.out (al (Below.refl _ _) _)) (wr.heap.size + 1) _ 1 1 (icells [x]) rfl ?c0 ?c1 ?c2 ?c3 ?c4 ?_)
          case c0 => exact Reads.int (Blk.new' (g := wr.heap.size) (by simp)) (Nat.lt_succ_self _)
          case c1 => exact icells_one _
          case c2 => unfold maxLen; omega
          case c3 => omega
          case c4 => first | omega | (simp; omega)
          intro v1 w1 hown1 hgrow _
          have HN1 : Hid (w1.ownsRow w.heap.size 3 1 v1 (acc ++ [x]).length (icells (acc ++ [x])) ∧ Below w.heap.size w w1) := Lib.hid ⟨by rw [icells_append, List.length_append]; exact hown1, (al HB.out _).grown hgrow (by simp; omega) (own_base HO.out)⟩
          clear hown1 hgrow
          go_wp2_with fail
          go_roundw
          case rel => exact ⟨k + 1, acc ++ [x], false, by omega, by go_num, rfl, by simp; omega, HM, HN1⟩
          case measure => simp [intOf]; omega
      · by_cases h2 : x = n
        · have HM := Lib.hid (HN.out acc true (by unfold stP; rw [if_neg (by simp), if_pos h2]))
          have e2 : (x != n) = false := by simp [h2]
          have HN1 := Lib.hid (And.intro HO.out HB.out)
          clear HN
          go_wp2_with fail
          go_roundw
          case rel => exact ⟨k + 1, acc, true, by omega, by go_num, rfl, by omega, HM, HN1⟩
          case measure => simp [intOf]; omega
        · have HM := Lib.hid (HN.out (acc ++ [x]) true (by unfold stP; rw [if_neg (by simp), if_neg h2]))
          have e2 : (x != n) = true := by simp [h2]
          clear HN
          go_wp2_with (at_builtin; refine wpList_append_any _ rfl (.tmp 34) (.tmp 39) 39 rfl w.heap.size 3 i0 (.int .i64 0) 1 8 Tryz.underlying39 hi hz0 hz1 hz2 rfl (by decide) _ _ _ rfl (own_below HO.out (al (Below.refl _ _) _)) (wr.heap.size + 1) _ 1 1 (icells [x]) rfl ?c0 ?c1 ?c2 ?c3 ?c4 ?_)
          case c0 => exact Reads.int (Blk.new' (g := wr.heap.size) (by simp)) (Nat.lt_succ_self _)
          case c1 => exact icells_one _
          case c2 => unfold maxLen; omega
          case c3 => omega
          case c4 => first | omega | (simp; omega)
          intro v1 w1 hown1 hgrow _
          have HN1 : Hid (w1.ownsRow w.heap.size 3 1 v1 (acc ++ [x]).length (icells (acc ++ [x])) ∧ Below w.heap.size w w1) := Lib.hid ⟨by rw [icells_append, List.length_append]; exact hown1, (al HB.out _).grown hgrow (by simp; omega) (own_base HO.out)⟩
          clear hown1 hgrow
          go_wp2_with fail
          go_roundw
          case rel => exact ⟨k + 1, acc ++ [x], true, by omega, by go_num, rfl, by simp; omega, HM, HN1⟩
          case measure => simp [intOf]; omega
    · have hlf : decide ((k : Int) < (l.length : Int)) = false := decide_eq_false (by omega)
      have HF2 : Hid (l.foldl (stP n) ([], false) = (acc, dn)) := Lib.hid (by
        have h := HF.out
        rwa [List.take_of_length_le (by omega)] at h)
      have hbw := HW.out.2.size
      cases dn
      · have HR : Hid (putR l n = acc ++ [n]) := Lib.hid (by unfold putR; rw [HF2.out]; rfl)
        have HO := Lib.hid HW.out.1
        have HB := Lib.hid HW.out.2
        go_wp2_with (at_builtin; refine wpList_append_any _ rfl (.tmp 43) (.tmp 45) 39 rfl w.heap.size 3 i0 (.int .i64 0) 1 8 Tryz.underlying39 hi hz0 hz1 hz2 rfl (by decide) _ _ _ rfl (own_below HO.out (al (Below.refl _ _) _)) (wr.heap.size + 1) _ 1 1 (icells [n]) rfl ?c0 ?c1 ?c2 ?c3 ?c4 ?_)
        case c0 => exact Reads.int (Blk.new' (g := wr.heap.size) (by simp)) (Nat.lt_succ_self _)
        case c1 => exact icells_one _
        case c2 => unfold maxLen; omega
        case c3 => omega
        case c4 => first | omega | (simp; omega)
        intro v1 w1 hown1 hgrow _
        have HN1 : Hid (w1.ownsRow w.heap.size 3 1 v1 (acc ++ [n]).length (icells (acc ++ [n])) ∧ Below w.heap.size w w1) := Lib.hid ⟨by rw [icells_append, List.length_append]; exact hown1, (al HB.out _).grown hgrow (by simp; omega) (own_base HO.out)⟩
        clear hown1 hgrow
        go_wp2_with fail
        go_ret
        exact ⟨_, rfl, by rw [HR.out]; exact HN1.out.1, HN1.out.2⟩
      · have HR : Hid (putR l n = acc) := Lib.hid (by unfold putR; rw [HF2.out]; rfl)
        go_wp2_with fail
        go_ret
        exact ⟨_, rfl, by rw [HR.out]; exact HW.out.1, HW.out.2⟩
end Go.Proofs.YtdiehgfldndgbaaGreatDoor
namespace Go.Proofs.YtdiehgfldndgbaaGreatDoor
open Go.RowKit Go.Deep

theorem clmE_of (e : E) : clmE e = if e.op = 1 then [e.n] else clmL [] e.args := by cases e; rw [clmE]; rfl
theorem putN_len (n : Int) : ∀ l : List Int, (putN l n).length ≤ l.length + 1
  | [] => by simp [putN]
  | x :: l => by
    have := putN_len n l
    rw [putN]
    split
    · simp
    · split
      · simp
      · simp; omega
theorem fold_len : ∀ (r l : List Int), (r.foldl putN l).length ≤ l.length + r.length
  | [], l => by simp
  | x :: r, l => by
    have h1 := fold_len r (putN l x)
    have h2 := putN_len x l
    rw [List.foldl_cons, List.length_cons]
    omega
mutual
theorem clmE_len : ∀ e : E, (clmE e).length ≤ nodesE e
  | .mk op n m k lit args rels => by
    have h1 := clmL_len args []
    have h2 := nodesE_args (.mk op n m k lit args rels)
    have h3 : (E.mk op n m k lit args rels).args = args := rfl
    rw [h3] at h2
    rw [clmE]
    split
    · simp; omega
    · simp at h1; omega
theorem clmL_len : ∀ (l : List E) (acc : List Int), (clmL acc l).length ≤ acc.length + nodesL l
  | [], acc => by simp [clmL]
  | e :: l, acc => by
    have h1 := clmE_len e
    have h2 := fold_len (clmE e) acc
    have h3 := clmL_len l ((clmE e).foldl putN acc)
    rw [clmL]
    simp only [nodesL]
    omega
end
theorem leafyL_take : ∀ (l : List E) (k : Nat), leafyL l = true → leafyL (l.take k) = true
  | [], k, _ => by simp [leafyL]
  | e :: l, 0, _ => by simp [leafyL]
  | e :: l, k + 1, h => by
    rw [leafyL, Bool.and_eq_true] at h
    rw [List.take_succ_cons, leafyL, h.1, leafyL_take l k h.2]; rfl
theorem own_weakerI {w : World} {base base' : Nat} {e : TypeId} {size n : Nat} {v : Value} {xs : List Value} (h : w.ownsRow base e size v n xs) (hb : base' ≤ base) : w.ownsRow base' e size v n xs :=
  ⟨h.1, h.2.imp id fun ⟨g, cap, cur, a, b, c⟩ => ⟨g, cap, cur, a, Nat.le_trans hb b, c⟩⟩
theorem IRd.own {w : World} {base : Nat} {v : Value} {l : List Int} (h : w.ownsRow base 3 1 v l.length (icells l)) : ∃ (A : Option Addr) (c : Nat), v = .slice A l.length c ∧ IRd w (NwB base w.heap.size) A l := by
  rcases h.2 with ⟨rfl, h0⟩ | ⟨g, cap, cur, rfl, hb, _⟩
  · exact ⟨none, 0, by rw [h0], fun h1 => absurd h1 (by omega)⟩
  · exact ⟨_, cap, rfl, (IRow.of h).rd ⟨hb, (IRow.of h).lt⟩⟩
set_option maxHeartbeats 4000000 in
set_option maxRecDepth 100000 in
theorem RColumns_any : ∀ (k q : Nat) (e : E) (A R : Option Addr) (c d : Nat) (w : World), nodesE e < k → k ≤ 10000 → shapedE q e = true → LOk w (Lo w.heap.size) A e.args →
    Calls Tryz.prog 24 #[e.val A c R d] w fun x w' => ∃ (A' : Option Addr) (c' : Nat), x = .returned (.slice A' (clmE e).length c') ∧ IRd w' (NwB w.heap.size w'.heap.size) A' (clmE e) ∧ Below w.heap.size w w' := by
  intro k
  induction k with
  | zero => intro q e A R c d w h; exact absurd h (Nat.not_lt_zero _)
  | succ k ih =>
    intro q e A R c d w hk hk1 hsh hA
    obtain ⟨q, rfl⟩ : ∃ q', q = q' + 1 := by
      cases q with
      | zero => rw [shapedE_zero] at hsh; cases hsh
      | succ q => exact ⟨q, rfl⟩
    have hlf := leafy_of (q + 1) e hsh
    rw [shapedE_succ, Bool.and_eq_true] at hsh
    have hnE := nodesE_args e
    have hln := nodesL_len e.args
    have hce := clmE_of e
    by_cases ho : e.op = 1
    · rw [if_pos ho] at hce
      rw [hce]
      have HP : Hid (Below w.heap.size w ((w.alloc (.cells #[.int .i64 1, .int .i64 e.n, .int .i64 e.m, .int .i64 e.kind, .int .i64 e.lit.k, .int .i64 e.lit.n, .string e.lit.s, .slice A e.args.length c, .slice R e.rels.length d] 30)).alloc (.cells #[.int .i64 e.n] 3)) ∧ IRd ((w.alloc (.cells #[.int .i64 1, .int .i64 e.n, .int .i64 e.m, .int .i64 e.kind, .int .i64 e.lit.k, .int .i64 e.lit.n, .string e.lit.s, .slice A e.args.length c, .slice R e.rels.length d] 30)).alloc (.cells #[.int .i64 e.n] 3)) (NwB w.heap.size ((w.alloc (.cells #[.int .i64 1, .int .i64 e.n, .int .i64 e.m, .int .i64 e.kind, .int .i64 e.lit.k, .int .i64 e.lit.n, .string e.lit.s, .slice A e.args.length c, .slice R e.rels.length d] 30)).alloc (.cells #[.int .i64 e.n] 3)).heap.size) (some ⟨w.heap.size + 1, 0, none⟩) [e.n]) := Lib.hid ⟨al (al (Below.refl _ _) _) _, fun _ => ⟨w.heap.size + 1, 0, rfl, ⟨by omega, by simp⟩, fun i x hx => by
        match i, hx with
        | 0, hx =>
          simp at hx; subst hx
          exact (Blk.new' (g := w.heap.size + 1) (w := (w.alloc (.cells #[.int .i64 1, .int .i64 e.n, .int .i64 e.m, .int .i64 e.kind, .int .i64 e.lit.k, .int .i64 e.lit.n, .string e.lit.s, .slice A e.args.length c, .slice R e.rels.length d] 30))) (t := 3) (cs := #[.int .i64 e.n]) (by simp)).cell 0⟩⟩
      clear ih hA hsh hce hlf
      unfold E.val
      rw [ho]
      go_enter Tryz.func24, Tryz.ntmps24
      go_wp2_with fail
      go_ret
      exact ⟨_, _, rfl, HP.out.2, HP.out.1⟩
    · rw [if_neg ho] at hce
      rw [hce]
      have hob : (e.op == 1) = false := beq_eq_false_iff_ne.2 ho
      have hlfa : leafyL e.args = true := leafyL_of q e.args hsh.2
      have HA := Lib.hid (And.intro hA (And.intro hsh.2 hlfa))
      have IH := Lib.hid ih
      have HB : Hid (Below w.heap.size w (w.alloc (.cells #[.int .i64 e.op, .int .i64 e.n, .int .i64 e.m, .int .i64 e.kind, .int .i64 e.lit.k, .int .i64 e.lit.n, .string e.lit.s, .slice A e.args.length c, .slice R e.rels.length d] 30)) ∧ Blk (w.alloc (.cells #[.int .i64 e.op, .int .i64 e.n, .int .i64 e.m, .int .i64 e.kind, .int .i64 e.lit.k, .int .i64 e.lit.n, .string e.lit.s, .slice A e.args.length c, .slice R e.rels.length d] 30)) w.heap.size 30 #[.int .i64 e.op, .int .i64 e.n, .int .i64 e.m, .int .i64 e.kind, .int .i64 e.lit.k, .int .i64 e.lit.n, .string e.lit.s, .slice A e.args.length c, .slice R e.rels.length d]) := Lib.hid ⟨al (Below.refl _ _) _, Blk.new w _ _⟩
      clear ih hA hsh hce hlf hlfa ho
      unfold E.val
      go_enter Tryz.func24, Tryz.ntmps24
      go_wp2_with fail
      go_loopw [3, 4] (fun v iv wr => ∃ (j : Nat) (acc : List Int), j ≤ e.args.length ∧ iv = .int .i64 j ∧ Hid (acc = clmL [] (e.args.take j)) ∧ Hid (wr.ownsRow (w.heap.size + 1) 3 1 v acc.length (icells acc) ∧ Below w.heap.size w wr ∧ Blk wr w.heap.size 30 #[.int .i64 e.op, .int .i64 e.n, .int .i64 e.m, .int .i64 e.kind, .int .i64 e.lit.k, .int .i64 e.lit.n, .string e.lit.s, .slice A e.args.length c, .slice R e.rels.length d])) (fun _ iv _ => e.args.length - (intOf iv).toNat)
      case atStart => exact ⟨0, [], Nat.zero_le _, rfl, Lib.hid (by rw [List.take_zero, clmL]), Lib.hid ⟨⟨rfl, .inl ⟨rfl, rfl⟩⟩, HB.out.1, HB.out.2⟩⟩
      case round =>
        obtain ⟨j, acc, hj, rfl, HC, HW⟩ := hrel
        have hq := HW.out.2.2
        have y7 := hq.cell 7
        simp only [List.getElem?_toArray, List.getElem?_cons_succ, List.getElem?_cons_zero] at y7
        clear hq
        by_cases hlt : j < e.args.length
        · have hlti : (j : Int) < (e.args.length : Int) := by omega
          have hj0 : (0 : Int) ≤ (j : Int) := by omega
          obtain ⟨b, o, hAe, hb, he⟩ := (HA.out.1.below HW.out.2.1 HW.out.2.1.size).at_ hlt
          rw [hAe] at y7
          have HAe := Lib.hid hAe
          clear hAe
          obtain ⟨z0, z1, z2, z3, z4, z5, z6, ⟨A1, c1, z7, z8⟩, R1, d1, z9, z10⟩ := EOk.mk_.1 he
          have x0 : wr.cell? ⟨b, o + j * 9, none⟩ = some (.int .i64 e.args[j].op) := z0
          have x1 : wr.cell? ⟨b, o + j * 9 + 1, none⟩ = some (.int .i64 e.args[j].n) := z1
          have x2 : wr.cell? ⟨b, o + j * 9 + 2, none⟩ = some (.int .i64 e.args[j].m) := z2
          have x3 : wr.cell? ⟨b, o + j * 9 + 3, none⟩ = some (.int .i64 e.args[j].kind) := z3
          have x4 : wr.cell? ⟨b, o + j * 9 + 4, none⟩ = some (.int .i64 e.args[j].lit.k) := z4
          have x5 : wr.cell? ⟨b, o + j * 9 + 5, none⟩ = some (.int .i64 e.args[j].lit.n) := z5
          have x6 : wr.cell? ⟨b, o + j * 9 + 6, none⟩ = some (.string e.args[j].lit.s) := z6
          have x7 : wr.cell? ⟨b, o + j * 9 + 7, none⟩ = some (.slice A1 e.args[j].args.length c1) := z7
          have x8 : wr.cell? ⟨b, o + j * 9 + 8, none⟩ = some (.slice R1 e.args[j].rels.length d1) := z9
          have hnm := nodesL_mem (List.getElem_mem hlt)
          have HK := Lib.hid (IH.out q e.args[j] A1 R1 c1 d1 wr (by omega) (by omega) (shapedL_mem HA.out.2.1 _ (List.getElem_mem hlt)) z8)
          have hcl := clmE_len e.args[j]
          have hacc : acc.length + (clmE e.args[j]).length ≤ 10000 := by
            have h1 := clmL_len (e.args.take j) []
            rw [← HC.out] at h1
            have h2 := nodesL_split e.args j hlt
            simp at h1
            omega
          have HR : Hid (acc.Pairwise (· < ·)) := Lib.hid (by rw [HC.out]; exact (clmL_spec _ [] (leafyL_take _ _ HA.out.2.2) List.Pairwise.nil).1)
          have HTk : Hid ((clmE e.args[j]).foldl putN acc = clmL [] (e.args.take (j + 1))) := Lib.hid (by rw [clmL_take e.args [] j hlt, HC.out])
          clear z0 z1 z2 z3 z4 z5 z6 z7 z8 z9 z10 he hnm hcl HC
          generalize clmE e.args[j] = ms at *
          generalize e.args[j] = ei at *
          unfold E.val at HK
          go_wp2_with fail
          refine HK.out.mono ?_
          rintro x w3 ⟨A5, c5, rfl, hI, hb3⟩
          have H3 : Hid (w3.ownsRow (w.heap.size + 1) 3 1 u3 acc.length (icells acc) ∧ Below w.heap.size w w3 ∧ Blk w3 w.heap.size 30 #[.int .i64 e.op, .int .i64 e.n, .int .i64 e.m, .int .i64 e.kind, .int .i64 e.lit.k, .int .i64 e.lit.n, .string e.lit.s, .slice A e.args.length c, .slice R e.rels.length d] ∧ IRd w3 (Lo w3.heap.size) A5 ms) := Lib.hid ⟨own_below HW.out.1 hb3, thn HW.out.2.1 hb3, HW.out.2.2.below hb3 HW.out.2.2.lt, hI.kept (fun _ _ => rfl) fun b hb => hb.2⟩
          clear hI hb3 HW HK x0 x1 x2 x3 x4 x5 x6 x7 x8 y7
          go_wp2_with fail
          go_loopw [3, 6] (fun v iv wr2 => ∃ (t : Nat) (acc2 : List Int), t ≤ ms.length ∧ iv = .int .i64 t ∧ acc2.length ≤ acc.length + t ∧ Hid (acc2 = (ms.take t).foldl putN acc) ∧ Hid (wr2.ownsRow (w.heap.size + 1) 3 1 v acc2.length (icells acc2) ∧ Below w.heap.size w wr2 ∧ Blk wr2 w.heap.size 30 #[.int .i64 e.op, .int .i64 e.n, .int .i64 e.m, .int .i64 e.kind, .int .i64 e.lit.k, .int .i64 e.lit.n, .string e.lit.s, .slice A e.args.length c, .slice R e.rels.length d] ∧ Below w3.heap.size w3 wr2)) (fun _ iv _ => ms.length - (intOf iv).toNat)
          case atStart => exact ⟨0, acc, Nat.zero_le _, rfl, Nat.le_refl _, Lib.hid (by rw [List.take_zero]; rfl), Lib.hid ⟨H3.out.1, H3.out.2.1, H3.out.2.2.1, Below.refl _ _⟩⟩
          case round =>
            obtain ⟨t, acc2, ht, rfl, hal, HC2, HW2⟩ := hrel
            by_cases htl : t < ms.length
            · have htli : (t : Int) < (ms.length : Int) := by omega
              have ht0 : (0 : Int) ≤ (t : Int) := by omega
              obtain ⟨b5, o5, rfl, hb5, hc5⟩ := H3.out.2.2.2.at_ htl
              have hc : wr.cell? ⟨b5, o5 + t, none⟩ = some (.int .i64 ms[t]) := (HW2.out.2.2.2.cell (p := ⟨b5, o5 + t, none⟩) hb5).trans hc5
              obtain ⟨A6, c6, hv6, hI6⟩ := IRd.own HW2.out.1
              have HTk2 : Hid (putN acc2 ms[t] = (ms.take (t + 1)).foldl putN acc) := Lib.hid (by rw [List.take_succ_eq_append_getElem htl, List.foldl_append, ← HC2.out]; rfl)
              have HR2 : Hid (putR acc2 ms[t] = putN acc2 ms[t]) := Lib.hid (putR_eq _ (by rw [HC2.out]; exact fold_rises _ _ HR.out))
              have HPu := Lib.hid (RPut_any A6 c6 acc2 ms[t] _ (hI6.kept (fun _ _ => rfl) fun b hb => hb.2) (by omega))
              have hpl := putN_len ms[t] acc2
              have hbs := HW2.out.2.1.size
              have hw1 : w.heap.size + 1 ≤ wr.heap.size := HW2.out.2.2.1.lt
              subst hv6
              rw [HR2.out] at HPu
              clear hc5 hI6 HR2
              generalize ms[t] = x at *
              go_wp2_with fail
              refine HPu.out.mono ?_
              rintro y w7 ⟨v7, rfl, ho7, hb7⟩
              have HN : Hid (w7.ownsRow (w.heap.size + 1) 3 1 v7 (putN acc2 x).length (icells (putN acc2 x)) ∧ Below w.heap.size w w7 ∧ Blk w7 w.heap.size 30 #[.int .i64 e.op, .int .i64 e.n, .int .i64 e.m, .int .i64 e.kind, .int .i64 e.lit.k, .int .i64 e.lit.n, .string e.lit.s, .slice A e.args.length c, .slice R e.rels.length d] ∧ Below w3.heap.size w3 w7) := Lib.hid ⟨own_weakerI ho7 hw1, thn HW2.out.2.1 hb7, HW2.out.2.2.1.below hb7 HW2.out.2.2.1.lt, thn HW2.out.2.2.2 hb7⟩
              have HTn := Lib.hid HTk2.out
              clear ho7 hb7 HPu
              go_wp2_with fail
              go_roundw
              case rel => exact ⟨t + 1, putN acc2 x, by omega, by go_num, by omega, HTn, HN⟩
              case measure => simp [intOf]; omega
            · have htf : decide ((t : Int) < (ms.length : Int)) = false := decide_eq_false (by omega)
              have HTe : Hid (acc2 = clmL [] (e.args.take (j + 1))) := Lib.hid (by rw [HC2.out, List.take_of_length_le (by omega), HTk.out])
              have HWe : Hid (wr.ownsRow (w.heap.size + 1) 3 1 u3 acc2.length (icells acc2) ∧ Below w.heap.size w wr ∧ Blk wr w.heap.size 30 #[.int .i64 e.op, .int .i64 e.n, .int .i64 e.m, .int .i64 e.kind, .int .i64 e.lit.k, .int .i64 e.lit.n, .string e.lit.s, .slice A e.args.length c, .slice R e.rels.length d]) := Lib.hid ⟨HW2.out.1, HW2.out.2.1, HW2.out.2.2.1⟩
              go_wp2_with fail
              go_roundw
              case rel => exact ⟨j + 1, acc2, by omega, by go_num, HTe, HWe⟩
              case measure => simp [intOf]; omega
        · have hlf : decide ((j : Int) < (e.args.length : Int)) = false := decide_eq_false (by omega)
          obtain ⟨A6, c6, hv6, hI6⟩ := IRd.own HW.out.1
          subst hv6
          have HF : Hid (acc = clmL [] e.args) := Lib.hid (by rw [HC.out, List.take_of_length_le (by omega)])
          have HI := Lib.hid (And.intro (hI6.kept (P' := NwB w.heap.size wr.heap.size) (fun _ _ => rfl) fun b hb => ⟨by have := hb.1; omega, hb.2⟩) HW.out.2.1)
          clear hI6
          go_wp2_with fail
          go_ret
          exact ⟨A6, c6, by rw [← HF.out]; rfl, by rw [← HF.out]; exact HI.out.1, HI.out.2⟩
end Go.Proofs.YtdiehgfldndgbaaGreatDoor
namespace Go.Proofs.YtdiehgfldndgbaaGreatDoor
open Go.RowKit Go.Deep

theorem lvsL_iff {x : E} : ∀ {q : List E}, x ∈ lvsL q ↔ ∃ y ∈ q, x ∈ lvsE y
  | [] => by rw [lvsL]; simp
  | b :: q => by
    rw [lvsL, List.mem_append, lvsL_iff (q := q)]
    simp
theorem allL_iff {n : Int} : ∀ {q : List E}, n ∈ allL q ↔ ∃ y ∈ q, n ∈ allE y
  | [] => by rw [allL]; simp
  | b :: q => by
    rw [allL, List.mem_append, allL_iff (q := q)]
    simp
theorem all_lvs : ∀ (d : Nat) (e : E), shapedE d e = true → ∀ n : Int, n ∈ allE e ↔ ∃ x ∈ lvsE e, x.op = 1 ∧ x.n = n
  | 0, e, h, _ => by rw [shapedE_zero] at h; cases h
  | d + 1, e, h, n => by
    by_cases h0 : e.args = []
    · rw [lvsE_leaf e h0]
      obtain ⟨op, m, k, kd, lit, args, rels⟩ := e
      change args = [] at h0
      subst h0
      rw [allE, allL, List.append_nil]
      by_cases h1 : op = 1
      · rw [if_pos h1]
        simp [E.op, E.n, h1]
        exact eq_comm
      · rw [if_neg h1]
        simp [E.op, h1]
    · have h4 := shaped_op h h0
      have hm := fun y (hy : y ∈ e.args) => all_lvs d y (shaped_arg h hy) n
      obtain ⟨op, m, k, kd, lit, args, rels⟩ := e
      cases args with
      | nil => exact absurd rfl h0
      | cons a l =>
        have hop : ¬ op = 1 := by have : 4 ≤ op := h4; omega
        rw [allE, if_neg hop, List.nil_append, allL_iff]
        have hl : lvsE (.mk op m k kd lit (a :: l) rels) = lvsL (a :: l) := by rw [lvsE, lvsL]
        rw [hl]
        constructor
        · rintro ⟨y, hy, hn⟩
          obtain ⟨x, hx, h1⟩ := (hm y hy).1 hn
          exact ⟨x, lvsL_iff.2 ⟨y, hy, hx⟩, h1⟩
        · rintro ⟨x, hx, h1⟩
          obtain ⟨y, hy, hxy⟩ := lvsL_iff.1 hx
          exact ⟨y, hy, (hm y hy).2 ⟨x, hxy, h1⟩⟩
theorem clm_lvs {d : Nat} {e : E} (h : shapedE d e = true) (n : Int) : n ∈ clmE e ↔ ∃ x ∈ lvsE e, x.op = 1 ∧ x.n = n := ((clmE_spec e (leafy_of d e h)).2 n).trans (all_lvs d e h n)
theorem clm_nn {d : Nat} {e : E} (h : shapedE d e = true) {n : Int} (hn : n ∈ clmE e) : 0 ≤ n := by
  obtain ⟨x, hx, h1, rfl⟩ := (clm_lvs h n).1 hn
  obtain ⟨m, rfl⟩ := col_leaf (lvs_node d e x h hx).1 h1
  exact Int.natCast_nonneg m
end Go.Proofs.YtdiehgfldndgbaaGreatDoor
