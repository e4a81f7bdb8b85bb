/-
  RpG: MATHEMATICS of Put: a leaf with its column replaced.
  PuM: MATHEMATICS of expressions put for columns: how many nodes, which numbers, the last column.
  PuP: CONTRACT of scalar.Put.
  Rcp: CONTRACT of the reference's Copy.
  Rpl: CONTRACT of the reference's Replaced.
  Mny: CONTRACT of the law's many.
-/
import Derived.Test.YtdiehgfldndgbaaGreatDoorGB23
import Derived.Test.YtdiehgfldndgbaaGreatDoorGB28
import Derived.Test.YtdiehgfldndgbaaGreatDoorGA06
import Derived.Test.YtdiehgfldndgbaaGreatDoorGA09
import Derived.Test.YtdiehgfldndgbaaGreatDoorGA21
import Derived.Test.YtdiehgfldndgbaaGreatDoorGB27
import Derived.Test.YtdiehgfldndgbaaGreatDoorGA19
import Derived.Test.YtdiehgfldndgbaaGreatDoorGA10
import Derived.Test.YtdiehgfldndgbaaGreatDoorGA17
import Derived.Test.YtdiehgfldndgbaaGreatDoorGA07
namespace Go.Proofs.YtdiehgfldndgbaaGreatDoor
open Go.RowKit Go.Deep

/-- a leaf with its column replaced -/
def rpF (by' : List E) (x : E) : E := if x.op = 1 then (by'[x.n.toNat]?).getD x else x
end Go.Proofs.YtdiehgfldndgbaaGreatDoor
namespace Go.Proofs.YtdiehgfldndgbaaGreatDoor
open Go.RowKit Go.Deep

mutual
theorem map_inn {f : E → E} : ∀ e : E, EIn e → (∀ x ∈ lvsE e, EIn (f x)) → EIn (mapE f e)
  | .mk op n m k lit args rels, h, hf => by
    cases args with
    | nil =>
      rw [mapE]
      exact hf _ (by rw [lvsE]; exact List.mem_singleton.2 rfl)
    | cons a l =>
      rw [mapE]
      rw [EIn] at h
      rw [lvsE] at hf
      obtain ⟨h0, h1, h2, h3, h4, h5, h6, h7, _, _, h10⟩ := h
      rw [EIn]
      refine ⟨h0, h1, h2, h3, h4, h5, h6, ?_, Nat.zero_le _, (fun x hx => by cases hx), ?_⟩
      · rw [mapL_map, List.length_cons, List.length_map]
        rw [List.length_cons] at h7
        exact h7
      · rw [LIn] at h10 ⊢
        exact ⟨map_inn a h10.1 fun x hx => hf x (List.mem_append_left _ hx), mapL_inn l h10.2 fun x hx => hf x (List.mem_append_right _ hx)⟩
theorem mapL_inn {f : E → E} : ∀ l : List E, LIn l → (∀ x ∈ lvsL l, EIn (f x)) → LIn (mapL f l)
  | [], _, _ => by rw [mapL, LIn]; trivial
  | e :: l, h, hf => by
    rw [LIn] at h
    rw [lvsL] at hf
    rw [mapL, LIn]
    exact ⟨map_inn e h.1 fun x hx => hf x (List.mem_append_left _ hx), mapL_inn l h.2 fun x hx => hf x (List.mem_append_right _ hx)⟩
end
mutual
theorem map_many {f : E → E} {K : Nat} (hK : 1 ≤ K) : ∀ e : E, (∀ x ∈ lvsE e, nodesE (f x) ≤ K) → nodesE (mapE f e) ≤ nodesE e * K
  | .mk op n m k lit args rels, hf => by
    cases args with
    | nil =>
      rw [mapE]
      have := hf (.mk op n m k lit [] []) (by rw [lvsE]; exact List.mem_singleton.2 rfl)
      rw [show nodesE (.mk op n m k lit [] rels) = 1 by rw [nodesE, nodesL], Nat.one_mul]
      exact this
    | cons a l =>
      rw [lvsE] at hf
      have h1 := map_many hK a fun x hx => hf x (List.mem_append_left _ hx)
      have h2 := mapL_many hK l fun x hx => hf x (List.mem_append_right _ hx)
      rw [mapE, nodesE, nodesE, nodesL, nodesL, Nat.add_mul, Nat.add_mul]
      omega
theorem mapL_many {f : E → E} {K : Nat} (hK : 1 ≤ K) : ∀ l : List E, (∀ x ∈ lvsL l, nodesE (f x) ≤ K) → nodesL (mapL f l) ≤ nodesL l * K
  | [], _ => by rw [mapL, nodesL]; omega
  | e :: l, hf => by
    rw [lvsL] at hf
    have h1 := map_many hK e fun x hx => hf x (List.mem_append_left _ hx)
    have h2 := mapL_many hK l fun x hx => hf x (List.mem_append_right _ hx)
    rw [mapL, nodesL, nodesL, Nat.add_mul]
    omega
end
theorem lvs_inn : ∀ (d : Nat) (e : E), shapedE d e = true → EIn e → ∀ x ∈ lvsE e, EIn x
  | 0, e, h, _ => by rw [shapedE_zero] at h; cases h
  | d + 1, e, h, hI => by
    intro x hx
    by_cases h0 : e.args = []
    · rw [lvsE_leaf e h0, List.mem_singleton] at hx
      subst hx
      obtain ⟨op, n, m, k, lit, args, rels⟩ := e
      rw [EIn] at hI
      exact leaf_in hI.1 hI.2.1 hI.2.2.1 hI.2.2.2.1 hI.2.2.2.2.1 hI.2.2.2.2.2.1 hI.2.2.2.2.2.2.1
    · obtain ⟨op, n, m, k, lit, args, rels⟩ := e
      cases args with
      | nil => exact absurd rfl h0
      | cons a l =>
        rw [lvsE] at hx
        have hx2 : x ∈ lvsL (a :: l) := by rw [lvsL]; exact hx
        obtain ⟨y, hy, hxy⟩ := lvsL_iff.1 hx2
        exact lvs_inn d y (shaped_arg h hy) (LIn.mem (EIn.args hI) y hy) x hxy
/-- a column that is not among k -/
def badPt (k : Nat) (n : Int) : Bool := decide ((k : Int) ≤ n)
theorem pt_good {k d : Nat} {e : E} (h : shapedE d e = true) (hb : (clmE e).any (badPt k) = false) : ∀ x ∈ lvsE e, x.op = 1 → 0 ≤ x.n ∧ x.n.toNat < k := fun x hx h1 => by
  have hm : x.n ∈ clmE e := (clm_lvs h _).2 ⟨x, hx, h1, rfl⟩
  have hn := clm_nn h hm
  have hf := List.any_eq_false.1 hb _ hm
  unfold badPt at hf
  simp at hf
  exact ⟨hn, by omega⟩
theorem put_inn {bys : List E} {d : Nat} {e : E} (h : shapedE d e = true) (hI : EIn e) (hB : ∀ b ∈ bys, EIn b) : EIn (mapE (rpF bys) e) :=
  map_inn e hI fun x hx => by
    have hx2 := lvs_inn d e h hI x hx
    unfold rpF
    split
    · rcases Nat.lt_or_ge x.n.toNat bys.length with hl | hl
      · rw [List.getElem?_eq_getElem hl]
        exact hB _ (List.getElem_mem hl)
      · rw [List.getElem?_eq_none hl]
        exact hx2
    · exact hx2
theorem put_many {bys : List E} {d : Nat} {e : E} (h : shapedE d e = true) (hB : ∀ b ∈ bys, nodesE b ≤ 420) : nodesE (mapE (rpF bys) e) ≤ nodesE e * 420 :=
  map_many (by decide) e fun x hx => by
    have h1 : nodesE x ≤ 420 := by
      obtain ⟨_, ha, _⟩ := lvs_node d e x h hx
      rw [nodesE_args, ha, nodesL]
      decide
    unfold rpF
    split
    · rcases Nat.lt_or_ge x.n.toNat bys.length with hl | hl
      · rw [List.getElem?_eq_getElem hl]
        exact hB _ (List.getElem_mem hl)
      · rw [List.getElem?_eq_none hl]
        exact h1
    · exact h1
/-- of rising numbers the last one is the greatest -/
theorem last_bad {k : Nat} : ∀ {l : List Int}, l.Pairwise (· < ·) → ∀ (h : 0 < l.length), l.any (badPt k) = badPt k (l[l.length - 1])
  | [], _, h => absurd h (Nat.lt_irrefl 0)
  | [x], _, _ => by simp
  | x :: y :: l, hp, _ => by
    rw [List.pairwise_cons] at hp
    have ih := last_bad (k := k) hp.2 (by simp)
    rw [List.any_cons, ih]
    have hlt : x < (y :: l)[(y :: l).length - 1] := hp.1 _ (List.getElem_mem _)
    have e1 : (x :: y :: l)[(x :: y :: l).length - 1] = (y :: l)[(y :: l).length - 1] := by simp
    rw [e1]
    generalize (y :: l)[(y :: l).length - 1] = z at *
    unfold badPt
    by_cases hz : (k : Int) ≤ z
    · simp [hz]
    · have hx : ¬ (k : Int) ≤ x := by omega
      simp [hz, hx]
end Go.Proofs.YtdiehgfldndgbaaGreatDoor
namespace Go.Proofs.YtdiehgfldndgbaaGreatDoor
open Go.RowKit Go.Deep

theorem LOk.eatP {w : World} {P : Nat → Prop} {A : Option Addr} {l : List E} {i : Nat} (h : LOk w P A l) (hP : ∀ b, P b → b < w.heap.size) (hi : i < l.length) : ∃ (b o : Nat) (A' : Option Addr) (c' : Nat) (R' : Option Addr) (d' : Nat), A = some ⟨b, o, none⟩ ∧ EAt w b (o + i * 9) l[i] A' c' R' d' ∧ LOk w P A' l[i].args ∧ ROk w P R' l[i].rels := by
  obtain ⟨b, o, rfl, hb, he⟩ := h.at_ hi
  obtain ⟨z0, z1, z2, z3, z4, z5, z6, ⟨A', c', z7, z8⟩, R', d', z9, z10⟩ := EOk.mk_.1 he
  exact ⟨b, o, A', c', R', d', rfl, ⟨hP b hb, z0, z1, z2, z3, z4, z5, z6, z7, z9⟩, z8, z10⟩
set_option maxHeartbeats 2000000 in
set_option maxRecDepth 100000 in
theorem Put1_any (n : Int) (g k : Nat) (Ab : Option Addr) (cb : Nat) (w : World) (hB : Blk w g 22 #[.slice Ab k cb]) :
    Calls Tryz.prog 63 #[.int .i64 n, .pointer (some ⟨g, 0, none⟩)] w fun x w' => x = .returned (.bool (badPt k n)) ∧ Below w.heap.size w w' := by
  have x0 := hB.cell 0
  simp only [List.getElem?_toArray, List.getElem?_cons_zero] at x0
  have HV : Hid (badPt k n = decide ((k : Int) ≤ n)) := Lib.hid rfl
  clear hB
  go_enter Tryz.func63, Tryz.ntmps63
  go_wp2_with fail
  go_ret
  exact ⟨by rw [HV.out]; rfl, Below.refl _ _⟩
set_option maxHeartbeats 2000000 in
set_option maxRecDepth 100000 in
theorem Put2_any (x : E) (g : Nat) (bys : List E) (Ab : Option Addr) (cb : Nat) (B : Nat) (w : World) (ha : x.args = []) (hr : x.rels = []) (hx : x.op = 1 → 0 ≤ x.n ∧ x.n.toNat < bys.length) (hB : Blk w g 22 #[.slice Ab bys.length cb]) (hBw : B ≤ w.heap.size) (hM : LOk w (Lo B) Ab bys) :
    Calls Tryz.prog 64 #[x.val none 0 none 0, .pointer (some ⟨g, 0, none⟩)] w fun y w' => ∃ h : HE, h.e = rpF bys x ∧ y = .returned h.val ∧ Below w.heap.size w w' ∧ h.ok w' (In2 B w.heap.size w'.heap.size) := by
  by_cases ho : x.op = 1
  · obtain ⟨hx0, hlt⟩ := hx ho
    obtain ⟨n, hn⟩ : ∃ n : Nat, x.n = n := ⟨x.n.toNat, by omega⟩
    rw [hn, Int.toNat_natCast] at hlt
    have HF : Hid (rpF bys x = bys[n]) := Lib.hid (by
      unfold rpF
      rw [if_pos ho, hn, Int.toNat_natCast, List.getElem?_eq_getElem hlt]; rfl)
    obtain ⟨b, o, A', c', R', d', rfl, hZ, hL, hR⟩ := hM.eatP (fun b hb => Nat.lt_of_lt_of_le hb hBw) hlt
    have hlti : (n : Int) < (bys.length : Int) := by omega
    have hn0 : (0 : Int) ≤ (n : Int) := by omega
    generalize bys[n] = y at *
    have HW : Hid (∀ ob1 ob2 : Obj, Blk ((w.alloc ob1).alloc ob2) g 22 #[.slice (some ⟨b, o, none⟩) bys.length cb] ∧ EAt ((w.alloc ob1).alloc ob2) b (o + n * 9) y A' c' R' d') := Lib.hid fun ob1 ob2 => ⟨(hB.alloc _).alloc _, hZ.below (al (al (Below.refl w.heap.size w) ob1) ob2)⟩
    have HLR : Hid (HE.ok w (Lo B) ⟨y, A', c', R', d'⟩) := Lib.hid ⟨hL, hR⟩
    unfold E.val
    rw [ha, hr, ho, hn]
    clear hM hB hZ hL hR hx ha hr hx0
    have q0 := (HW.out (.cells #[.int .i64 1, .int .i64 (n : Nat), .int .i64 x.m, .int .i64 x.kind, .int .i64 x.lit.k, .int .i64 x.lit.n, .string x.lit.s, .slice none 0 0, .slice none 0 0] 30) (.cells #[.int .i64 0, .int .i64 0, .int .i64 0, .int .i64 0, .int .i64 0, .int .i64 0, .string ⟨#[]⟩, .slice none 0 0, .slice none 0 0] 30)).1.cell 0
    have hZ := (HW.out (.cells #[.int .i64 1, .int .i64 (n : Nat), .int .i64 x.m, .int .i64 x.kind, .int .i64 x.lit.k, .int .i64 x.lit.n, .string x.lit.s, .slice none 0 0, .slice none 0 0] 30) (.cells #[.int .i64 0, .int .i64 0, .int .i64 0, .int .i64 0, .int .i64 0, .int .i64 0, .string ⟨#[]⟩, .slice none 0 0, .slice none 0 0] 30)).2
    simp only [List.getElem?_toArray, List.getElem?_cons_zero] at q0
    have x0 := hZ.c0
    have x1 := hZ.c1
    have x2 := hZ.c2
    have x3 := hZ.c3
    have x4 := hZ.c4
    have x5 := hZ.c5
    have x6 := hZ.c6
    have x7 := hZ.c7
    have x8 := hZ.c8
    clear hZ
    have HO := Lib.hid (And.intro ho hn)
    clear ho hn
    go_enter Tryz.func64, Tryz.ntmps64
    go_wp2_with fail
    exact bodyPost_ret (v := .agg #[.int .i64 y.op, .int .i64 y.n, .int .i64 y.m, .int .i64 y.kind, .int .i64 y.lit.k, .int .i64 y.lit.n, .string y.lit.s, .slice A' y.args.length c', .slice R' y.rels.length d']) (by simp [results, Tryz.results64, go_sem]) rfl ⟨⟨y, A', c', R', d'⟩, HF.out.symm, rfl, al (al (Below.refl _ _) _) _, HLR.out.kept (fun b hb => (al (al (Below.refl w.heap.size w) _) _).block b (Nat.lt_of_lt_of_le hb hBw)) fun b hb => by have : b < B := hb; exact ⟨.inl this, by simp; omega⟩⟩
  · have hob : (x.op == 1) = false := beq_eq_false_iff_ne.2 ho
    have HF : Hid (rpF bys x = .mk x.op x.n x.m x.kind x.lit [] []) := Lib.hid (by
      unfold rpF
      rw [if_neg ho]
      conv => lhs; rw [E.eta x]
      rw [ha, hr])
    unfold E.val
    rw [ha, hr]
    clear hM hB
    go_enter Tryz.func64, Tryz.ntmps64
    go_wp2_with fail
    exact bodyPost_ret (v := .agg #[.int .i64 x.op, .int .i64 x.n, .int .i64 x.m, .int .i64 x.kind, .int .i64 x.lit.k, .int .i64 x.lit.n, .string x.lit.s, .slice none 0 0, .slice none 0 0]) (by simp [results, Tryz.results64, go_sem]) rfl ⟨⟨.mk x.op x.n x.m x.kind x.lit [] [], none, 0, none, 0⟩, HF.out.symm, rfl, al (al (Below.refl _ _) _) _, LOk.nil_, fun h => absurd h (Nat.lt_irrefl 0)⟩
/-- what Put gives, and its error -/
def ptS (bys : List E) (e : E) : E × Int := if formE e = true then (if bys.all formE = true then (if (clmE e).any (badPt bys.length) = true then (zE, 1) else (frE (mapE (rpF bys) e), frF (mapE (rpF bys) e))) else (zE, 30)) else (zE, 30)
set_option maxHeartbeats 4000000 in
set_option maxRecDepth 100000 in
theorem PutP_any (e : E) (A R : Option Addr) (c d : Nat) (bys : List E) (Ab : Option Addr) (cb : Nat) (w : World) (hG : GS w) (hE : EHas w e A R) (hI : EIn e) (hM : LOk w (Lo w.heap.size) Ab bys) (hBI : ∀ x ∈ bys, EIn x) (hBN : nodesL bys ≤ 420) :
    Calls Tryz.prog 23 #[e.val A c R d, .slice Ab bys.length cb] w fun x w' => ∃ h : HE, h.e = (ptS bys e).1 ∧ x = .returned (.tuple #[h.val, .int .i64 (ptS bys e).2]) ∧ Below w.heap.size w w' ∧ h.ok w' (NwB w.heap.size w'.heap.size) := by
  have hmf : ∀ (fn : Fn) (first cap : Array Value) (w : World), (Instr.makeFunc fn first cap).run Tryz.prog w = .ok (.func fn first cap) w := fun _ _ _ _ => rfl
  have hb0 : Below w.heap.size w (((w.alloc (.cells #[.int .i64 e.op, .int .i64 e.n, .int .i64 e.m, .int .i64 e.kind, .int .i64 e.lit.k, .int .i64 e.lit.n, .string e.lit.s, .slice A e.args.length c, .slice R e.rels.length d] 30)).alloc (.cells #[.slice Ab bys.length cb] 22)).alloc (.cells #[.int .i64 0, .int .i64 0, .int .i64 0, .int .i64 0, .int .i64 0, .int .i64 0, .string ⟨#[]⟩, .slice none 0 0, .slice none 0 0] 30)) := al (al (al (Below.refl _ _) _) _) _
  have H0 : Hid (Below w.heap.size w (((w.alloc (.cells #[.int .i64 e.op, .int .i64 e.n, .int .i64 e.m, .int .i64 e.kind, .int .i64 e.lit.k, .int .i64 e.lit.n, .string e.lit.s, .slice A e.args.length c, .slice R e.rels.length d] 30)).alloc (.cells #[.slice Ab bys.length cb] 22)).alloc (.cells #[.int .i64 0, .int .i64 0, .int .i64 0, .int .i64 0, .int .i64 0, .int .i64 0, .string ⟨#[]⟩, .slice none 0 0, .slice none 0 0] 30)) ∧ Blk (((w.alloc (.cells #[.int .i64 e.op, .int .i64 e.n, .int .i64 e.m, .int .i64 e.kind, .int .i64 e.lit.k, .int .i64 e.lit.n, .string e.lit.s, .slice A e.args.length c, .slice R e.rels.length d] 30)).alloc (.cells #[.slice Ab bys.length cb] 22)).alloc (.cells #[.int .i64 0, .int .i64 0, .int .i64 0, .int .i64 0, .int .i64 0, .int .i64 0, .string ⟨#[]⟩, .slice none 0 0, .slice none 0 0] 30)) w.heap.size 30 #[.int .i64 e.op, .int .i64 e.n, .int .i64 e.m, .int .i64 e.kind, .int .i64 e.lit.k, .int .i64 e.lit.n, .string e.lit.s, .slice A e.args.length c, .slice R e.rels.length d] ∧ Blk (((w.alloc (.cells #[.int .i64 e.op, .int .i64 e.n, .int .i64 e.m, .int .i64 e.kind, .int .i64 e.lit.k, .int .i64 e.lit.n, .string e.lit.s, .slice A e.args.length c, .slice R e.rels.length d] 30)).alloc (.cells #[.slice Ab bys.length cb] 22)).alloc (.cells #[.int .i64 0, .int .i64 0, .int .i64 0, .int .i64 0, .int .i64 0, .int .i64 0, .string ⟨#[]⟩, .slice none 0 0, .slice none 0 0] 30)) (w.heap.size + 1) 22 #[.slice Ab bys.length cb] ∧ Blk (((w.alloc (.cells #[.int .i64 e.op, .int .i64 e.n, .int .i64 e.m, .int .i64 e.kind, .int .i64 e.lit.k, .int .i64 e.lit.n, .string e.lit.s, .slice A e.args.length c, .slice R e.rels.length d] 30)).alloc (.cells #[.slice Ab bys.length cb] 22)).alloc (.cells #[.int .i64 0, .int .i64 0, .int .i64 0, .int .i64 0, .int .i64 0, .int .i64 0, .string ⟨#[]⟩, .slice none 0 0, .slice none 0 0] 30)) (w.heap.size + 1 + 1) 30 #[.int .i64 0, .int .i64 0, .int .i64 0, .int .i64 0, .int .i64 0, .int .i64 0, .string ⟨#[]⟩, .slice none 0 0, .slice none 0 0]) := Lib.hid ⟨hb0, ((Blk.new w _ _).alloc _).alloc _, (Blk.new' (by simp)).alloc _, Blk.new' (by simp)⟩
  have HC := Lib.hid (ColumnsP_any e A R c d (((w.alloc (.cells #[.int .i64 e.op, .int .i64 e.n, .int .i64 e.m, .int .i64 e.kind, .int .i64 e.lit.k, .int .i64 e.lit.n, .string e.lit.s, .slice A e.args.length c, .slice R e.rels.length d] 30)).alloc (.cells #[.slice Ab bys.length cb] 22)).alloc (.cells #[.int .i64 0, .int .i64 0, .int .i64 0, .int .i64 0, .int .i64 0, .int .i64 0, .string ⟨#[]⟩, .slice none 0 0, .slice none 0 0] 30)) (hG.thn hb0) (hE.below hb0))
  have hmn : ∀ x ∈ bys, nodesE x ≤ 420 := fun x hx => by
    have := nodesL_mem hx
    omega
  have hbl := nodesL_len bys
  rcases ckE_cases e with ⟨hq, hck⟩ | ⟨hq, hck⟩
  · have hf := formE_iff.1 hq
    have hcol : colS e = clmE e := if_pos hq
    have hcl := clmE_len e
    rw [hck, hcol] at HC
    have HKb : Hid (∀ W, Below w.heap.size w W → Calls Tryz.prog 46 #[.slice Ab bys.length cb] W fun x w' => x = .returned (.int .i64 (cksE bys)) ∧ Below W.heap.size W w') := Lib.hid fun W hb =>
      checkE_any Ab cb bys W (by omega) (fun x hx => ⟨by have := hmn x hx; omega, fitX_of x (hBI x hx) (by have := hmn x hx; omega)⟩) (hG.thn hb) (hM.below hb hb.size)
    rcases cksE_cases bys with ⟨hqb, hcb⟩ | ⟨hqb, hcb⟩
    · rw [hcb] at HKb
      have HCf : Hid (∀ (W : World) (A1 : Option Addr) (c1 : Nat), Below w.heap.size w W → IRd W (Lo W.heap.size) A1 (clmE e) → Blk W (w.heap.size + 1) 22 #[.slice Ab bys.length cb] → Calls Tryz.prog 58 #[.slice A1 (clmE e).length c1, .func (.func 63) #[] #[.pointer (some ⟨w.heap.size + 1, 0, none⟩)]] W fun x w' => x = .returned (.bool ((clmE e).any (badPt bys.length))) ∧ Below W.heap.size W w') := Lib.hid fun W A1 c1 hb hi hB =>
        ContainsFunc_int1 63 (.pointer (some ⟨w.heap.size + 1, 0, none⟩)) (badPt bys.length) A1 c1 (clmE e) W hi (by omega) (enters_of Tryz.func63 (by kernel_rfl) rfl) fun w1 hb1 n hn => Put1_any n (w.heap.size + 1) bys.length Ab cb w1 (hB.below hb1 hB.lt)
      cases hbad : (clmE e).any (badPt bys.length) with
      | false =>
        have HF : Hid (ptS bys e = (frE (mapE (rpF bys) e), frF (mapE (rpF bys) e))) := Lib.hid (by unfold ptS; rw [if_pos hq, if_pos hqb, hbad]; rfl)
        have HR : Hid (∀ W, Below w.heap.size w W → Blk W (w.heap.size + 1) 22 #[.slice Ab bys.length cb] → Calls Tryz.prog 60 #[e.val A c R d, .func (.func 64) #[] #[.pointer (some ⟨w.heap.size + 1, 0, none⟩)]] W fun x w2 => ∃ h : HE, h.e = mapE (rpF bys) e ∧ x = .returned h.val ∧ Below W.heap.size W w2 ∧ h.ok w2 (In2 w.heap.size W.heap.size w2.heap.size)) := Lib.hid fun W hb hB =>
          rebuiltC_any (rpF bys) 64 (.pointer (some ⟨w.heap.size + 1, 0, none⟩)) (fun x => x.op = 1 → 0 ≤ x.n ∧ x.n.toNat < bys.length) w.heap.size W hb.size (enters_of Tryz.func64 (by kernel_rfl) rfl) (fun x w1 ha hr hx hb1 => Put2_any x (w.heap.size + 1) bys Ab cb w.heap.size w1 ha hr hx (hB.below hb1 hB.lt) (thn hb hb1).size (hM.kept (fun b h => (thn hb hb1).block b h) fun _ h => h)) 1000000 e A R c d W hE.n (Nat.le_refl _) (Below.refl _ _) (hE.below hb).a (pt_good hf.1 hbad)
        have HFr : Hid (∀ (W : World) (h : HE), Below w.heap.size w W → h.e = mapE (rpF bys) e → h.ok W (Lo W.heap.size) → Calls Tryz.prog 47 #[h.val] W fun x w' => ∃ h2 : HE, h2.e = frE (mapE (rpF bys) e) ∧ x = .returned (.tuple #[h2.val, .int .i64 (frF (mapE (rpF bys) e))]) ∧ Below W.heap.size W w' ∧ h2.ok w' (NwB W.heap.size w'.heap.size)) := Lib.hid fun W h hb he hok => by
          have hpn := put_many (bys := bys) hf.1 hmn
          have hE2 : EHas W h.e h.A h.R := EHas.of (c := h.c) (d := h.d) hok (fun b h => h) (by rw [he]; exact put_inn hf.1 hI hBI) (by rw [he]; omega)
          have k := fresh_any h.e h.A h.R h.c h.d W (hG.thn hb) hE2
          rw [he] at k
          rw [HE.val, he]
          exact k
        rw [hbad] at HCf
        rw [HF.out]
        clear hG hE hM hq hck hf hcol hcl hb0 hbad hmn hbl hBI hBN hqb hcb hI
        generalize clmE e = cl at *
        generalize frF (mapE (rpF bys) e) = fr at *
        unfold E.val at HC HR ⊢
        go_enter Tryz.func23, Tryz.ntmps23
        go_wp2_with fail
        refine HC.out.mono ?_
        rintro x w2 ⟨A1, c1, rfl, hi, hb2⟩
        have H2 : Hid (Below w.heap.size w w2 ∧ Blk w2 w.heap.size 30 #[.int .i64 e.op, .int .i64 e.n, .int .i64 e.m, .int .i64 e.kind, .int .i64 e.lit.k, .int .i64 e.lit.n, .string e.lit.s, .slice A e.args.length c, .slice R e.rels.length d] ∧ Blk w2 (w.heap.size + 1) 22 #[.slice Ab bys.length cb] ∧ Blk w2 (w.heap.size + 1 + 1) 30 #[.int .i64 0, .int .i64 0, .int .i64 0, .int .i64 0, .int .i64 0, .int .i64 0, .string ⟨#[]⟩, .slice none 0 0, .slice none 0 0]) := Lib.hid ⟨thn H0.out.1 hb2, H0.out.2.1.below hb2 H0.out.2.1.lt, H0.out.2.2.1.below hb2 H0.out.2.2.1.lt, H0.out.2.2.2.below hb2 H0.out.2.2.2.lt⟩
        have HI : Hid (IRd w2 (Lo w2.heap.size) A1 cl) := Lib.hid (hi.kept (fun _ _ => rfl) fun b h => h.2)
        clear hb2 hi HC H0
        have q1 := H2.out.2.2.1.cell 0
        simp only [List.getElem?_toArray, List.getElem?_cons_zero] at q1
        go_wp2_with fail
        refine (HKb.out w2 H2.out.1).mono ?_
        rintro x w5 ⟨rfl, hb5⟩
        have H5 : Hid (Below w.heap.size w w5 ∧ Blk w5 w.heap.size 30 #[.int .i64 e.op, .int .i64 e.n, .int .i64 e.m, .int .i64 e.kind, .int .i64 e.lit.k, .int .i64 e.lit.n, .string e.lit.s, .slice A e.args.length c, .slice R e.rels.length d] ∧ Blk w5 (w.heap.size + 1) 22 #[.slice Ab bys.length cb] ∧ Blk w5 (w.heap.size + 1 + 1) 30 #[.int .i64 0, .int .i64 0, .int .i64 0, .int .i64 0, .int .i64 0, .int .i64 0, .string ⟨#[]⟩, .slice none 0 0, .slice none 0 0]) := Lib.hid ⟨thn H2.out.1 hb5, H2.out.2.1.below hb5 H2.out.2.1.lt, H2.out.2.2.1.below hb5 H2.out.2.2.1.lt, H2.out.2.2.2.below hb5 H2.out.2.2.2.lt⟩
        have HI5 : Hid (IRd w5 (Lo w5.heap.size) A1 cl) := Lib.hid (HI.out.kept (fun b h => hb5.block b h) fun b h => Nat.lt_of_lt_of_le h hb5.size)
        clear hb5 HKb HI H2 q1
        go_wp2_with fail
        refine (HCf.out w5 A1 c1 H5.out.1 HI5.out H5.out.2.2.1).mono ?_
        rintro x w3 ⟨rfl, hb3⟩
        have H3 : Hid (Below w.heap.size w w3 ∧ Blk w3 w.heap.size 30 #[.int .i64 e.op, .int .i64 e.n, .int .i64 e.m, .int .i64 e.kind, .int .i64 e.lit.k, .int .i64 e.lit.n, .string e.lit.s, .slice A e.args.length c, .slice R e.rels.length d] ∧ Blk w3 (w.heap.size + 1) 22 #[.slice Ab bys.length cb] ∧ Blk w3 (w.heap.size + 1 + 1) 30 #[.int .i64 0, .int .i64 0, .int .i64 0, .int .i64 0, .int .i64 0, .int .i64 0, .string ⟨#[]⟩, .slice none 0 0, .slice none 0 0]) := Lib.hid ⟨thn H5.out.1 hb3, H5.out.2.1.below hb3 H5.out.2.1.lt, H5.out.2.2.1.below hb3 H5.out.2.2.1.lt, H5.out.2.2.2.below hb3 H5.out.2.2.2.lt⟩
        clear hb3 HCf HI5
        have HRr := Lib.hid (HR.out w3 H3.out.1 H3.out.2.2.1)
        clear HR H5
        have hq := H3.out.2.1
        have x0 := hq.cell 0
        have x1 := hq.cell 1
        have x2 := hq.cell 2
        have x3 := hq.cell 3
        have x4 := hq.cell 4
        have x5 := hq.cell 5
        have x6 := hq.cell 6
        have x7 := hq.cell 7
        have x8 := hq.cell 8
        simp only [List.getElem?_toArray, List.getElem?_cons_succ, List.getElem?_cons_zero] at x0 x1 x2 x3 x4 x5 x6 x7 x8
        clear hq
        go_wp2_with fail
        refine HRr.out.mono ?_
        rintro x w4 ⟨h, hhe, rfl, hb4, hok⟩
        have H4 : Hid (Below w.heap.size w w4 ∧ Blk w4 w.heap.size 30 #[.int .i64 e.op, .int .i64 e.n, .int .i64 e.m, .int .i64 e.kind, .int .i64 e.lit.k, .int .i64 e.lit.n, .string e.lit.s, .slice A e.args.length c, .slice R e.rels.length d] ∧ Blk w4 (w.heap.size + 1) 22 #[.slice Ab bys.length cb] ∧ Blk w4 (w.heap.size + 1 + 1) 30 #[.int .i64 0, .int .i64 0, .int .i64 0, .int .i64 0, .int .i64 0, .int .i64 0, .string ⟨#[]⟩, .slice none 0 0, .slice none 0 0]) := Lib.hid ⟨thn H3.out.1 hb4, H3.out.2.1.below hb4 H3.out.2.1.lt, H3.out.2.2.1.below hb4 H3.out.2.2.1.lt, H3.out.2.2.2.below hb4 H3.out.2.2.2.lt⟩
        have HFc := Lib.hid (HFr.out w4 h H4.out.1 hhe (hok.kept (fun _ _ => rfl) fun b hb => hb.2))
        clear hb4 hok hhe HRr H3 HFr x0 x1 x2 x3 x4 x5 x6 x7 x8
        unfold HE.val E.val at HFc ⊢
        go_wp2_with fail
        refine HFc.out.mono ?_
        rintro x w6 ⟨h2, hh2, rfl, hb6, hok2⟩
        have H6 : Hid (Below w.heap.size w w6 ∧ Blk w6 w.heap.size 30 #[.int .i64 e.op, .int .i64 e.n, .int .i64 e.m, .int .i64 e.kind, .int .i64 e.lit.k, .int .i64 e.lit.n, .string e.lit.s, .slice A e.args.length c, .slice R e.rels.length d] ∧ Blk w6 (w.heap.size + 1) 22 #[.slice Ab bys.length cb] ∧ Blk w6 (w.heap.size + 1 + 1) 30 #[.int .i64 0, .int .i64 0, .int .i64 0, .int .i64 0, .int .i64 0, .int .i64 0, .string ⟨#[]⟩, .slice none 0 0, .slice none 0 0]) := Lib.hid ⟨thn H4.out.1 hb6, H4.out.2.1.below hb6 H4.out.2.1.lt, H4.out.2.2.1.below hb6 H4.out.2.2.1.lt, H4.out.2.2.2.below hb6 H4.out.2.2.2.lt⟩
        have HK : Hid (h2.e = frE (mapE (rpF bys) e) ∧ h2.ok w6 (NwB w4.heap.size w6.heap.size) ∧ w.heap.size + 1 + 1 < w4.heap.size) := Lib.hid ⟨hh2, hok2, H4.out.2.2.2.lt⟩
        clear hb6 hok2 hh2 HFc H4
        have hq := H6.out.2.2.2
        have hql := hq.lt
        have f0 := hq.frozen 0
        have f1 := hq.frozen 1
        have f2 := hq.frozen 2
        have f3 := hq.frozen 3
        have f4 := hq.frozen 4
        have f5 := hq.frozen 5
        have f6 := hq.frozen 6
        have f7 := hq.frozen 7
        have f8 := hq.frozen 8
        have d0 := hq.cell 0
        have d1 := hq.cell 1
        have d2 := hq.cell 2
        have d3 := hq.cell 3
        have d4 := hq.cell 4
        have d5 := hq.cell 5
        have d6 := hq.cell 6
        have d7 := hq.cell 7
        have d8 := hq.cell 8
        simp only [List.getElem?_toArray, List.getElem?_cons_succ, List.getElem?_cons_zero] at d0 d1 d2 d3 d4 d5 d6 d7 d8
        clear hq
        have HB9 := Lib.hid (H6.out.2.2.2.set9_ (.int .i64 h2.e.op) (.int .i64 h2.e.n) (.int .i64 h2.e.m) (.int .i64 h2.e.kind) (.int .i64 h2.e.lit.k) (.int .i64 h2.e.lit.n) (.string h2.e.lit.s) (.slice h2.A h2.e.args.length h2.c) (.slice h2.R h2.e.rels.length h2.d))
        go_wp2_with fail
        have k0 := HB9.out.cell 0
        have k1 := HB9.out.cell 1
        have k2 := HB9.out.cell 2
        have k3 := HB9.out.cell 3
        have k4 := HB9.out.cell 4
        have k5 := HB9.out.cell 5
        have k6 := HB9.out.cell 6
        have k7 := HB9.out.cell 7
        have k8 := HB9.out.cell 8
        simp at k0 k1 k2 k3 k4 k5 k6 k7 k8
        exact bodyPost_ret (v := .tuple #[.agg #[.int .i64 h2.e.op, .int .i64 h2.e.n, .int .i64 h2.e.m, .int .i64 h2.e.kind, .int .i64 h2.e.lit.k, .int .i64 h2.e.lit.n, .string h2.e.lit.s, .slice h2.A h2.e.args.length h2.c, .slice h2.R h2.e.rels.length h2.d], .int .i64 fr]) (by simp [results, Tryz.results23, go_sem, k0, k1, k2, k3, k4, k5, k6, k7, k8]) rfl ⟨h2, HK.out.1, rfl, st9 H6.out.1 (by omega) _ _ _ _ _ _ _ _ _, HK.out.2.1.kept (fun b hb => set9_far _ _ _ _ _ _ _ _ _ _ _ b (by have := hb.1; have := HK.out.2.2; omega)) fun b hb => ⟨by have := hb.1; have := HK.out.2.2; omega, by rw [set9_size]; exact hb.2⟩⟩
      | true =>
        have HF : Hid (ptS bys e = (zE, 1)) := Lib.hid (by unfold ptS; rw [if_pos hq, if_pos hqb, hbad]; rfl)
        rw [hbad] at HCf
        rw [HF.out]
        clear hG hE hM hq hck hf hcol hcl hb0 hbad hmn hbl hBI hBN hqb hcb hI
        generalize clmE e = cl at *
        unfold E.val at HC ⊢
        go_enter Tryz.func23, Tryz.ntmps23
        go_wp2_with fail
        refine HC.out.mono ?_
        rintro x w2 ⟨A1, c1, rfl, hi, hb2⟩
        have H2 : Hid (Below w.heap.size w w2 ∧ Blk w2 w.heap.size 30 #[.int .i64 e.op, .int .i64 e.n, .int .i64 e.m, .int .i64 e.kind, .int .i64 e.lit.k, .int .i64 e.lit.n, .string e.lit.s, .slice A e.args.length c, .slice R e.rels.length d] ∧ Blk w2 (w.heap.size + 1) 22 #[.slice Ab bys.length cb] ∧ Blk w2 (w.heap.size + 1 + 1) 30 #[.int .i64 0, .int .i64 0, .int .i64 0, .int .i64 0, .int .i64 0, .int .i64 0, .string ⟨#[]⟩, .slice none 0 0, .slice none 0 0]) := Lib.hid ⟨thn H0.out.1 hb2, H0.out.2.1.below hb2 H0.out.2.1.lt, H0.out.2.2.1.below hb2 H0.out.2.2.1.lt, H0.out.2.2.2.below hb2 H0.out.2.2.2.lt⟩
        have HI : Hid (IRd w2 (Lo w2.heap.size) A1 cl) := Lib.hid (hi.kept (fun _ _ => rfl) fun b h => h.2)
        clear hb2 hi HC H0
        have q1 := H2.out.2.2.1.cell 0
        simp only [List.getElem?_toArray, List.getElem?_cons_zero] at q1
        go_wp2_with fail
        refine (HKb.out w2 H2.out.1).mono ?_
        rintro x w5 ⟨rfl, hb5⟩
        have H5 : Hid (Below w.heap.size w w5 ∧ Blk w5 w.heap.size 30 #[.int .i64 e.op, .int .i64 e.n, .int .i64 e.m, .int .i64 e.kind, .int .i64 e.lit.k, .int .i64 e.lit.n, .string e.lit.s, .slice A e.args.length c, .slice R e.rels.length d] ∧ Blk w5 (w.heap.size + 1) 22 #[.slice Ab bys.length cb] ∧ Blk w5 (w.heap.size + 1 + 1) 30 #[.int .i64 0, .int .i64 0, .int .i64 0, .int .i64 0, .int .i64 0, .int .i64 0, .string ⟨#[]⟩, .slice none 0 0, .slice none 0 0]) := Lib.hid ⟨thn H2.out.1 hb5, H2.out.2.1.below hb5 H2.out.2.1.lt, H2.out.2.2.1.below hb5 H2.out.2.2.1.lt, H2.out.2.2.2.below hb5 H2.out.2.2.2.lt⟩
        have HI5 : Hid (IRd w5 (Lo w5.heap.size) A1 cl) := Lib.hid (HI.out.kept (fun b h => hb5.block b h) fun b h => Nat.lt_of_lt_of_le h hb5.size)
        clear hb5 HKb HI H2 q1
        go_wp2_with fail
        refine (HCf.out w5 A1 c1 H5.out.1 HI5.out H5.out.2.2.1).mono ?_
        rintro x w3 ⟨rfl, hb3⟩
        have H3 : Hid (Below w.heap.size w w3 ∧ Blk w3 w.heap.size 30 #[.int .i64 e.op, .int .i64 e.n, .int .i64 e.m, .int .i64 e.kind, .int .i64 e.lit.k, .int .i64 e.lit.n, .string e.lit.s, .slice A e.args.length c, .slice R e.rels.length d] ∧ Blk w3 (w.heap.size + 1) 22 #[.slice Ab bys.length cb] ∧ Blk w3 (w.heap.size + 1 + 1) 30 #[.int .i64 0, .int .i64 0, .int .i64 0, .int .i64 0, .int .i64 0, .int .i64 0, .string ⟨#[]⟩, .slice none 0 0, .slice none 0 0]) := Lib.hid ⟨thn H5.out.1 hb3, H5.out.2.1.below hb3 H5.out.2.1.lt, H5.out.2.2.1.below hb3 H5.out.2.2.1.lt, H5.out.2.2.2.below hb3 H5.out.2.2.2.lt⟩
        clear hb3 HCf HI5 H5
        have hq := H3.out.2.2.2
        have hql := hq.lt
        have f0 := hq.frozen 0
        have f1 := hq.frozen 1
        have f2 := hq.frozen 2
        have f3 := hq.frozen 3
        have f4 := hq.frozen 4
        have f5 := hq.frozen 5
        have f6 := hq.frozen 6
        have f7 := hq.frozen 7
        have f8 := hq.frozen 8
        have d0 := hq.cell 0
        have d1 := hq.cell 1
        have d2 := hq.cell 2
        have d3 := hq.cell 3
        have d4 := hq.cell 4
        have d5 := hq.cell 5
        have d6 := hq.cell 6
        have d7 := hq.cell 7
        have d8 := hq.cell 8
        simp only [List.getElem?_toArray, List.getElem?_cons_succ, List.getElem?_cons_zero] at d0 d1 d2 d3 d4 d5 d6 d7 d8
        clear hq
        have HB9 := Lib.hid (H3.out.2.2.2.set9_ (.int .i64 0) (.int .i64 0) (.int .i64 0) (.int .i64 0) (.int .i64 0) (.int .i64 0) (.string ⟨#[]⟩) (.slice none 0 0) (.slice none 0 0))
        go_wp2_with fail
        have k0 := HB9.out.cell 0
        have k1 := HB9.out.cell 1
        have k2 := HB9.out.cell 2
        have k3 := HB9.out.cell 3
        have k4 := HB9.out.cell 4
        have k5 := HB9.out.cell 5
        have k6 := HB9.out.cell 6
        have k7 := HB9.out.cell 7
        have k8 := HB9.out.cell 8
        simp at k0 k1 k2 k3 k4 k5 k6 k7 k8
        exact bodyPost_ret (v := .tuple #[.agg #[.int .i64 0, .int .i64 0, .int .i64 0, .int .i64 0, .int .i64 0, .int .i64 0, .string ⟨#[]⟩, .slice none 0 0, .slice none 0 0], .int .i64 1]) (by simp [results, Tryz.results23, go_sem, k0, k1, k2, k3, k4, k5, k6, k7, k8]) rfl ⟨zH, rfl, rfl, st9 H3.out.1 (by omega) _ _ _ _ _ _ _ _ _, zH_ok _ _⟩
    · rw [hcb] at HKb
      have HF : Hid (ptS bys e = (zE, 30)) := Lib.hid (by unfold ptS; rw [if_pos hq, hqb]; rfl)
      rw [HF.out]
      clear hG hE hM hq hck hf hcol hcl hb0 hmn hbl hBI hBN hqb hcb hI
      generalize clmE e = cl at *
      unfold E.val at HC ⊢
      go_enter Tryz.func23, Tryz.ntmps23
      go_wp2_with fail
      refine HC.out.mono ?_
      rintro x w2 ⟨A1, c1, rfl, hi, hb2⟩
      have H2 : Hid (Below w.heap.size w w2 ∧ Blk w2 w.heap.size 30 #[.int .i64 e.op, .int .i64 e.n, .int .i64 e.m, .int .i64 e.kind, .int .i64 e.lit.k, .int .i64 e.lit.n, .string e.lit.s, .slice A e.args.length c, .slice R e.rels.length d] ∧ Blk w2 (w.heap.size + 1) 22 #[.slice Ab bys.length cb] ∧ Blk w2 (w.heap.size + 1 + 1) 30 #[.int .i64 0, .int .i64 0, .int .i64 0, .int .i64 0, .int .i64 0, .int .i64 0, .string ⟨#[]⟩, .slice none 0 0, .slice none 0 0]) := Lib.hid ⟨thn H0.out.1 hb2, H0.out.2.1.below hb2 H0.out.2.1.lt, H0.out.2.2.1.below hb2 H0.out.2.2.1.lt, H0.out.2.2.2.below hb2 H0.out.2.2.2.lt⟩
      have HI : Hid (IRd w2 (Lo w2.heap.size) A1 cl) := Lib.hid (hi.kept (fun _ _ => rfl) fun b h => h.2)
      clear hb2 hi HC H0
      have q1 := H2.out.2.2.1.cell 0
      simp only [List.getElem?_toArray, List.getElem?_cons_zero] at q1
      go_wp2_with fail
      refine (HKb.out w2 H2.out.1).mono ?_
      rintro x w5 ⟨rfl, hb5⟩
      have H5 : Hid (Below w.heap.size w w5 ∧ Blk w5 w.heap.size 30 #[.int .i64 e.op, .int .i64 e.n, .int .i64 e.m, .int .i64 e.kind, .int .i64 e.lit.k, .int .i64 e.lit.n, .string e.lit.s, .slice A e.args.length c, .slice R e.rels.length d] ∧ Blk w5 (w.heap.size + 1) 22 #[.slice Ab bys.length cb] ∧ Blk w5 (w.heap.size + 1 + 1) 30 #[.int .i64 0, .int .i64 0, .int .i64 0, .int .i64 0, .int .i64 0, .int .i64 0, .string ⟨#[]⟩, .slice none 0 0, .slice none 0 0]) := Lib.hid ⟨thn H2.out.1 hb5, H2.out.2.1.below hb5 H2.out.2.1.lt, H2.out.2.2.1.below hb5 H2.out.2.2.1.lt, H2.out.2.2.2.below hb5 H2.out.2.2.2.lt⟩
      clear hb5 HKb HI H2 q1
      have hq := H5.out.2.2.2
      have hql := hq.lt
      have f0 := hq.frozen 0
      have f1 := hq.frozen 1
      have f2 := hq.frozen 2
      have f3 := hq.frozen 3
      have f4 := hq.frozen 4
      have f5 := hq.frozen 5
      have f6 := hq.frozen 6
      have f7 := hq.frozen 7
      have f8 := hq.frozen 8
      have d0 := hq.cell 0
      have d1 := hq.cell 1
      have d2 := hq.cell 2
      have d3 := hq.cell 3
      have d4 := hq.cell 4
      have d5 := hq.cell 5
      have d6 := hq.cell 6
      have d7 := hq.cell 7
      have d8 := hq.cell 8
      simp only [List.getElem?_toArray, List.getElem?_cons_succ, List.getElem?_cons_zero] at d0 d1 d2 d3 d4 d5 d6 d7 d8
      clear hq
      have HB9 := Lib.hid (H5.out.2.2.2.set9_ (.int .i64 0) (.int .i64 0) (.int .i64 0) (.int .i64 0) (.int .i64 0) (.int .i64 0) (.string ⟨#[]⟩) (.slice none 0 0) (.slice none 0 0))
      go_wp2_with fail
      have k0 := HB9.out.cell 0
      have k1 := HB9.out.cell 1
      have k2 := HB9.out.cell 2
      have k3 := HB9.out.cell 3
      have k4 := HB9.out.cell 4
      have k5 := HB9.out.cell 5
      have k6 := HB9.out.cell 6
      have k7 := HB9.out.cell 7
      have k8 := HB9.out.cell 8
      simp at k0 k1 k2 k3 k4 k5 k6 k7 k8
      exact bodyPost_ret (v := .tuple #[.agg #[.int .i64 0, .int .i64 0, .int .i64 0, .int .i64 0, .int .i64 0, .int .i64 0, .string ⟨#[]⟩, .slice none 0 0, .slice none 0 0], .int .i64 30]) (by simp [results, Tryz.results23, go_sem, k0, k1, k2, k3, k4, k5, k6, k7, k8]) rfl ⟨zH, rfl, rfl, st9 H5.out.1 (by omega) _ _ _ _ _ _ _ _ _, zH_ok _ _⟩
  · have HF : Hid (ptS bys e = (zE, 30)) := Lib.hid (by unfold ptS; rw [hq]; rfl)
    rw [hck] at HC
    rw [HF.out]
    clear hG hE hM hq hck hb0 hmn hbl hBI hBN hI
    generalize colS e = cl at *
    unfold E.val at HC ⊢
    go_enter Tryz.func23, Tryz.ntmps23
    go_wp2_with fail
    refine HC.out.mono ?_
    rintro x w2 ⟨A1, c1, rfl, hi, hb2⟩
    have H2 : Hid (Below w.heap.size w w2 ∧ Blk w2 w.heap.size 30 #[.int .i64 e.op, .int .i64 e.n, .int .i64 e.m, .int .i64 e.kind, .int .i64 e.lit.k, .int .i64 e.lit.n, .string e.lit.s, .slice A e.args.length c, .slice R e.rels.length d] ∧ Blk w2 (w.heap.size + 1) 22 #[.slice Ab bys.length cb] ∧ Blk w2 (w.heap.size + 1 + 1) 30 #[.int .i64 0, .int .i64 0, .int .i64 0, .int .i64 0, .int .i64 0, .int .i64 0, .string ⟨#[]⟩, .slice none 0 0, .slice none 0 0]) := Lib.hid ⟨thn H0.out.1 hb2, H0.out.2.1.below hb2 H0.out.2.1.lt, H0.out.2.2.1.below hb2 H0.out.2.2.1.lt, H0.out.2.2.2.below hb2 H0.out.2.2.2.lt⟩
    have HI : Hid (IRd w2 (Lo w2.heap.size) A1 cl) := Lib.hid (hi.kept (fun _ _ => rfl) fun b h => h.2)
    clear hb2 hi HC H0
    clear HI
    have hq := H2.out.2.2.2
    have hql := hq.lt
    have f0 := hq.frozen 0
    have f1 := hq.frozen 1
    have f2 := hq.frozen 2
    have f3 := hq.frozen 3
    have f4 := hq.frozen 4
    have f5 := hq.frozen 5
    have f6 := hq.frozen 6
    have f7 := hq.frozen 7
    have f8 := hq.frozen 8
    have d0 := hq.cell 0
    have d1 := hq.cell 1
    have d2 := hq.cell 2
    have d3 := hq.cell 3
    have d4 := hq.cell 4
    have d5 := hq.cell 5
    have d6 := hq.cell 6
    have d7 := hq.cell 7
    have d8 := hq.cell 8
    simp only [List.getElem?_toArray, List.getElem?_cons_succ, List.getElem?_cons_zero] at d0 d1 d2 d3 d4 d5 d6 d7 d8
    clear hq
    have HB9 := Lib.hid (H2.out.2.2.2.set9_ (.int .i64 0) (.int .i64 0) (.int .i64 0) (.int .i64 0) (.int .i64 0) (.int .i64 0) (.string ⟨#[]⟩) (.slice none 0 0) (.slice none 0 0))
    go_wp2_with fail
    have k0 := HB9.out.cell 0
    have k1 := HB9.out.cell 1
    have k2 := HB9.out.cell 2
    have k3 := HB9.out.cell 3
    have k4 := HB9.out.cell 4
    have k5 := HB9.out.cell 5
    have k6 := HB9.out.cell 6
    have k7 := HB9.out.cell 7
    have k8 := HB9.out.cell 8
    simp at k0 k1 k2 k3 k4 k5 k6 k7 k8
    exact bodyPost_ret (v := .tuple #[.agg #[.int .i64 0, .int .i64 0, .int .i64 0, .int .i64 0, .int .i64 0, .int .i64 0, .string ⟨#[]⟩, .slice none 0 0, .slice none 0 0], .int .i64 30]) (by simp [results, Tryz.results23, go_sem, k0, k1, k2, k3, k4, k5, k6, k7, k8]) rfl ⟨zH, rfl, rfl, st9 H2.out.1 (by omega) _ _ _ _ _ _ _ _ _, zH_ok _ _⟩
end Go.Proofs.YtdiehgfldndgbaaGreatDoor
namespace Go.Proofs.YtdiehgfldndgbaaGreatDoor
open Go.RowKit Go.Deep

set_option maxHeartbeats 8000000 in
set_option maxRecDepth 100000 in
theorem RCopyE_any : ∀ (k q : Nat) (e : E) (A R : Option Addr) (c d : Nat) (w : World), nodesE e < k → k ≤ 10000 → shapedE q e = true → LOk w (Lo w.heap.size) A e.args →
    Calls Tryz.prog 41 #[e.val A c R d] w fun x w' => ∃ h : HE, h.e = e ∧ x = .returned h.val ∧ Below w.heap.size w w' ∧ h.ok w' (NwB w.heap.size w'.heap.size) := by
  intro k
  induction k with
  | zero => intro q e A R c d w h; exact absurd h (Nat.not_lt_zero _)
  | succ k ih =>
    intro q e A R c d w hk hk1 hsh hA
    obtain ⟨q, rfl⟩ : ∃ q', q = q' + 1 := by
      cases q with
      | zero => rw [shapedE_zero] at hsh; cases hsh
      | succ q => exact ⟨q, rfl⟩
    rw [shapedE_succ, Bool.and_eq_true] at hsh
    have hnE := nodesE_args e
    have hln := nodesL_len e.args
    have HRl := Lib.hid (node_cases hsh.1).1
    have hl16 := node_args hsh.1
    have HA := Lib.hid (And.intro hA hsh.2)
    have IH := Lib.hid ih
    have HS := Lib.hid (CInv2.start e (e.n) A R c d w (.slice none 0 0))
    clear ih hA hsh
    unfold E.val
    go_enter Tryz.func41, Tryz.ntmps41
    go_wp2_with fail
    go_loopw [4] (fun iv wr => ∃ (j : Nat) (v : Value) (hs : List HE), j ≤ e.args.length ∧ iv = .int .i64 j ∧ Hid (CInv2 e (e.n) A R c d w wr v) ∧ Hid (hs.map HE.e = (e.args.take j).map (fun x => x) ∧ hs.length = j ∧ CArgs (w.heap.size + 1 + 1 + 1) wr v hs)) (fun iv _ => e.args.length - (intOf iv).toNat)
    case atStart => exact ⟨0, .slice none 0 0, [], Nat.zero_le _, rfl, HS.out, ⟨rfl, rfl, CArgs.nil _ _⟩⟩
    case round =>
      obtain ⟨j, v, hs, hj, rfl, HC, HH⟩ := hrel
      have y7 := HC.out.par.cell 7
      simp only [List.getElem?_toArray, List.getElem?_cons_succ, List.getElem?_cons_zero] at y7
      by_cases hlt : j < e.args.length
      · have hlti : (j : Int) < (e.args.length : Int) := by omega
        have hj0 : (0 : Int) ≤ (j : Int) := by omega
        obtain ⟨b, o, A', c', R', d', rfl, hZ, hLj, -⟩ := (HA.out.1.below HC.out.lo HC.out.lo.size).eat hlt
        have HZ := Lib.hid hZ
        have hmm := nodesL_mem (List.getElem_mem hlt)
        have HT := Lib.hid (List.take_succ_eq_append_getElem hlt)
        have HK : Hid (∀ w', Below wr.heap.size wr w' → Calls Tryz.prog 41 #[e.args[j].val A' c' R' d'] w' fun x w2 => ∃ h : HE, h.e = e.args[j] ∧ x = .returned h.val ∧ Below w'.heap.size w' w2 ∧ h.ok w2 (NwB w'.heap.size w2.heap.size)) := Lib.hid fun w' hb => IH.out q e.args[j] A' R' c' d' w' (by omega) (by omega) (shapedL_mem HA.out.2 _ (List.getElem_mem hlt)) (hLj.below hb hb.size)
        have HJ : Hid ((fun x => x) e.args[j] = e.args[j]) := Lib.hid rfl
        clear hZ hLj hmm
        generalize e.args[j] = ej at *
        unfold E.val at HK
        go_upto_region 6 with fail
        clear y7
        refine wp_region_grow (W := wr) 9 [[], [0], [], [2], [], [3, 4], [5], [6], [7]] [] (fun i u w' => match i with | 0 => u = .pointer (some ⟨w.heap.size + 1 + 1, 7, none⟩) | 1 => u = v | 2 => u = .pointer (some ⟨w.heap.size, 7, none⟩) | 3 => u = .slice (some ⟨b, o, none⟩) e.args.length c | 4 => u = .int .i64 (j : Nat) | 5 => u = .pointer (some ⟨b, o + j * 9, none⟩) | 6 => u = .agg #[.int .i64 ej.op, .int .i64 ej.n, .int .i64 ej.m, .int .i64 ej.kind, .int .i64 ej.lit.k, .int .i64 ej.lit.n, .string ej.lit.s, .slice A' ej.args.length c', .slice R' ej.rels.length d'] | 7 => HGot (ej) wr.heap.size u w' | _ => HBuilt (ej) wr.heap.size u w') (by kernel_rfl) (by kernel_rfl) ?hD ⟨?o0, ?o1, ?o2, ?o3, ?o4, ?o5, ?o6, ?o7, ?o8, trivial⟩ ?fin
        case hD =>
          intro i u w1 w2 hb hd
          split at hd <;> first | exact hd | exact HGot.below hd hb | exact HBuilt.below hd hb
        case o0 =>
          refine growOne_of (pre := []) rfl ?_
          simp only [fillL, Act.put]
          intro f w' hb hp
          clear hp
          clear hb
          go_wp2_with fail
          exact ⟨Below.refl _ _, rfl, fun h => by simp at h⟩
        case o1 =>
          refine growOne_of (pre := [0]) rfl ?_
          simp only [fillL, Region.dstOf, List.getElem?_toArray, List.getElem?_cons_zero, Option.bind_some, Act.put]
          intro f w' hb hp
          have h0 : f 0 = .pointer (some ⟨w.heap.size + 1 + 1, 7, none⟩) := hp 0 (by decide)
          have k0 := (hb.cell (p := ⟨w.heap.size + 1 + 1, 7, none⟩) HC.out.out.lt).trans (HC.out.out.cell 7)
          simp only [List.getElem?_toArray, List.getElem?_cons_succ, List.getElem?_cons_zero] at k0
          clear hp
          rw [h0]
          clear h0
          clear hb
          go_wp2_with fail
          exact ⟨Below.refl _ _, rfl, fun h => by simp at h⟩
        case o2 =>
          refine growOne_of (pre := []) rfl ?_
          simp only [fillL, Act.put]
          intro f w' hb hp
          clear hp
          clear hb
          go_wp2_with fail
          exact ⟨Below.refl _ _, rfl, fun h => by simp at h⟩
        case o3 =>
          refine growOne_of (pre := [2]) rfl ?_
          simp only [fillL, Region.dstOf, List.getElem?_toArray, List.getElem?_cons_zero, List.getElem?_cons_succ, Option.bind_some, Act.put]
          intro f w' hb hp
          have h2 : f 2 = .pointer (some ⟨w.heap.size, 7, none⟩) := hp 2 (by decide)
          have k0 := (hb.cell (p := ⟨w.heap.size, 7, none⟩) HC.out.par.lt).trans (HC.out.par.cell 7)
          simp only [List.getElem?_toArray, List.getElem?_cons_succ, List.getElem?_cons_zero] at k0
          clear hp
          rw [h2]
          clear h2
          clear hb
          go_wp2_with fail
          exact ⟨Below.refl _ _, rfl, fun h => by simp at h⟩
        case o4 =>
          refine growOne_of (pre := []) rfl ?_
          simp only [fillL, Act.put]
          intro f w' hb hp
          clear hp
          clear hb
          go_wp2_with fail
          exact ⟨Below.refl _ _, rfl, fun h => by simp at h⟩
        case o5 =>
          refine growOne_of (pre := [3, 4]) rfl ?_
          simp only [fillL, Region.dstOf, List.getElem?_toArray, List.getElem?_cons_zero, List.getElem?_cons_succ, Option.bind_some, Act.put]
          intro f w' hb hp
          have h3 : f 3 = .slice (some ⟨b, o, none⟩) e.args.length c := hp 3 (by decide)
          have h4 : f 4 = .int .i64 (j : Nat) := hp 4 (by decide)
          clear hp
          rw [h3, h4]
          clear h3 h4
          clear hb
          go_wp2_with fail
          exact ⟨Below.refl _ _, rfl, fun h => by simp at h⟩
        case o6 =>
          refine growOne_of (pre := [5]) rfl ?_
          simp only [fillL, Region.dstOf, List.getElem?_toArray, List.getElem?_cons_zero, List.getElem?_cons_succ, Option.bind_some, Act.put]
          intro f w' hb hp
          have h5 : f 5 = .pointer (some ⟨b, o + j * 9, none⟩) := hp 5 (by decide)
          have HZb := HZ.out.below hb
          have k0 := HZb.c0
          have k1 := HZb.c1
          have k2 := HZb.c2
          have k3 := HZb.c3
          have k4 := HZb.c4
          have k5 := HZb.c5
          have k6 := HZb.c6
          have k7 := HZb.c7
          have k8 := HZb.c8
          clear HZb
          clear hp
          rw [h5]
          clear h5
          clear hb
          go_wp2_with fail
          exact ⟨Below.refl _ _, rfl, fun h => by simp at h⟩
        case o7 =>
          refine growOne_of (pre := [6]) rfl ?_
          simp only [fillL, Region.dstOf, List.getElem?_toArray, List.getElem?_cons_zero, List.getElem?_cons_succ, Option.bind_some, Act.put]
          intro f w' hb hp
          have h6 : f 6 = .agg #[.int .i64 ej.op, .int .i64 ej.n, .int .i64 ej.m, .int .i64 ej.kind, .int .i64 ej.lit.k, .int .i64 ej.lit.n, .string ej.lit.s, .slice A' ej.args.length c', .slice R' ej.rels.length d'] := hp 6 (by decide)
          have HKs := Lib.hid hb.size
          clear hp
          rw [h6]
          clear h6
          have HKw := Lib.hid (HK.out w' hb)
          clear hb
          go_wp2_with fail
          refine HKw.out.mono ?_
          rintro x w9 ⟨h, hh, rfl, hb9, hok⟩
          have HO : Hid (Below w'.heap.size w' w9 ∧ HGot (ej) wr.heap.size h.val w9) := Lib.hid ⟨hb9, HGot.new hh HKs.out hb9 hok⟩
          clear hok hh hb9 HKw
          go_wp2_with fail
          exact ⟨HO.out.1, HO.out.2, fun h => by simp at h⟩
        case o8 =>
          refine growOne_of (pre := [7]) rfl ?_
          simp only [fillL, Region.dstOf, List.getElem?_toArray, List.getElem?_cons_zero, List.getElem?_cons_succ, Option.bind_some, Act.put]
          intro f w' hb hp
          obtain ⟨h, ⟨hh, h7⟩, hl, hok⟩ := hp 7 (by decide)
          clear hp
          rw [h7]
          clear h7
          have HO := Lib.hid (HBuilt.new hh hb.size hok)
          unfold HE.val E.val
          clear hb hok hh
          go_wp2_with fail
          exact ⟨al (Below.refl _ _) _, HO.out, fun h => by simp at h⟩
        case fin =>
          intro f w' hb hd _
          have e0 : f 0 = .pointer (some ⟨w.heap.size + 1 + 1, 7, none⟩) := hd 0 (by decide)
          have e1 : f 1 = v := hd 1 (by decide)
          have e2 : f 2 = .pointer (some ⟨w.heap.size, 7, none⟩) := hd 2 (by decide)
          have e3 : f 3 = .slice (some ⟨b, o, none⟩) e.args.length c := hd 3 (by decide)
          have e4 : f 4 = .int .i64 (j : Nat) := hd 4 (by decide)
          have e5 : f 5 = .pointer (some ⟨b, o + j * 9, none⟩) := hd 5 (by decide)
          have e6 : f 6 = .agg #[.int .i64 ej.op, .int .i64 ej.n, .int .i64 ej.m, .int .i64 ej.kind, .int .i64 ej.lit.k, .int .i64 ej.lit.n, .string ej.lit.s, .slice A' ej.args.length c', .slice R' ej.rels.length d'] := hd 6 (by decide)
          obtain ⟨hx, ⟨hhx, e7⟩, hlx, hokx⟩ := hd 7 (by decide)
          obtain ⟨g, h, ⟨e8, hg0⟩, hg8, hh, hok⟩ := hd 8 (by decide)
          clear hd
          rw [show List.range 9 = [0, 1, 2, 3, 4, 5, 6, 7, 8] from rfl]
          simp only [fillL, Region.dstOf, List.getElem?_toArray, List.getElem?_cons_zero, List.getElem?_cons_succ, Option.bind_some, Act.put]
          rw [e0, e1, e2, e3, e4, e5, e6, e7, e8]
          clear e0 e1 e2 e3 e4 e5 e6 e7 e8
          go_frame
          obtain ⟨i0, hi, hz0, hz1, hz2⟩ := info_parts infoE
          have hRd : Reads w' w'.heap.size 9 (some ⟨g, 0, none⟩) 1 (hcells [h]) := Reads.he hg8 hg8.lt
          have hOw := own_below HH.out.2.2.1 hb
          refine wpList_append_any _ rfl (.tmp 15) (.tmp 22) 22 rfl (w.heap.size + 1 + 1 + 1) 30 i0 (.agg #[.int .i64 0, .int .i64 0, .int .i64 0, .int .i64 0, .int .i64 0, .int .i64 0, .string ⟨#[]⟩, .slice none 0 0, .slice none 0 0]) 9 112 Tryz.underlying22 hi hz0 hz1 hz2 rfl (by decide) v hs.length (hcells hs) rfl hOw w'.heap.size (some ⟨g, 0, none⟩) 1 1 (hcells [h]) rfl hRd (hcells_one _) ?c2 ?c3 ?c4 ?_
          case c2 => have := HH.out.2.1; unfold maxLen; omega
          case c3 => have := HH.out.2.1; omega
          case c4 => have := hb.size; have := HC.out.out.lt; omega
          intro v' w4 hown4 hgrow hvb
          have HB4 := (HC.out.below hb).grown hgrow (fun g hg => (HH.out.2.2.1.lt g hg).1)
          have hq := HB4.out
          have s7 := hq.cell 7
          have f7 := hq.frozen 7
          simp only [List.getElem?_toArray, List.getElem?_cons_succ, List.getElem?_cons_zero] at s7
          clear hq
          have HN : Hid (CInv2 e (e.n) (some ⟨b, o, none⟩) R c d w (w4.setCell ⟨w.heap.size + 1 + 1, 7, none⟩ v') v' ∧ CArgs (w.heap.size + 1 + 1 + 1) (w4.setCell ⟨w.heap.size + 1 + 1, 7, none⟩ v') v' (hs ++ [h])) := Lib.hid ⟨HB4.set7 v', (HH.out.2.2.snocW hb (by have := HC.out.out.lt; omega) hok hown4 hgrow hvb).set_ (by omega) v'⟩
          have HL : Hid ((hs ++ [h]).map HE.e = (e.args.take (j + 1)).map (fun x => x) ∧ (hs ++ [h]).length = j + 1) := Lib.hid ⟨by rw [HT.out, List.map_append, List.map_append, HH.out.1, List.map_singleton, List.map_singleton, hh]; first | done | rw [HJ.out], by rw [List.length_append, HH.out.2.1]; rfl⟩
          obtain ⟨A2, d2, rfl⟩ := own_slc hown4
          clear hown4 hgrow hvb HB4 hRd hOw hok hh hg8
          go_frame
          go_wp2_with fail
          exact ⟨⟨j + 1, _, hs ++ [h], by omega, by go_num, Lib.hid HN.out.1, Lib.hid ⟨HL.out.1, HL.out.2, HN.out.2⟩⟩, by simp [intOf]; omega⟩
      · have hlf : decide ((j : Int) < (e.args.length : Int)) = false := decide_eq_false (by omega)
        have HD : Hid (hs.map HE.e = e.args.map (fun x => x)) := Lib.hid (by rw [HH.out.1, List.take_of_length_le (by omega)])
        obtain ⟨A2, c2, rfl, hLk⟩ := HH.out.2.2.reads
        have HLk := Lib.hid hLk
        have HHl : Hid (hs.length = e.args.length) := Lib.hid (by have := HH.out.2.1; omega)
        clear hLk y7
        have hq := HC.out.out
        have x0 := hq.cell 0
        have x1 := hq.cell 1
        have x2 := hq.cell 2
        have x3 := hq.cell 3
        have x4 := hq.cell 4
        have x5 := hq.cell 5
        have x6 := hq.cell 6
        have x7 := hq.cell 7
        have x8 := hq.cell 8
        simp only [List.getElem?_toArray, List.getElem?_cons_succ, List.getElem?_cons_zero] at x0 x1 x2 x3 x4 x5 x6 x7 x8
        clear hq
        have hq := HC.out.res
        have hql := hq.lt
        have f0 := hq.frozen 0
        have f1 := hq.frozen 1
        have f2 := hq.frozen 2
        have f3 := hq.frozen 3
        have f4 := hq.frozen 4
        have f5 := hq.frozen 5
        have f6 := hq.frozen 6
        have f7 := hq.frozen 7
        have f8 := hq.frozen 8
        have d0 := hq.cell 0
        have d1 := hq.cell 1
        have d2 := hq.cell 2
        have d3 := hq.cell 3
        have d4 := hq.cell 4
        have d5 := hq.cell 5
        have d6 := hq.cell 6
        have d7 := hq.cell 7
        have d8 := hq.cell 8
        simp only [List.getElem?_toArray, List.getElem?_cons_succ, List.getElem?_cons_zero] at d0 d1 d2 d3 d4 d5 d6 d7 d8
        clear hq
        have HB9 := Lib.hid (HC.out.res.set9_ (.int .i64 e.op) (.int .i64 e.n) (.int .i64 e.m) (.int .i64 e.kind) (.int .i64 e.lit.k) (.int .i64 e.lit.n) (.string e.lit.s) (.slice A2 hs.length c2) (.slice R e.rels.length d))
        have y7 := HC.out.par.cell 7
        simp only [List.getElem?_toArray, List.getElem?_cons_succ, List.getElem?_cons_zero] at y7
        go_wp2_with fail
        have k0 := HB9.out.cell 0
        have k1 := HB9.out.cell 1
        have k2 := HB9.out.cell 2
        have k3 := HB9.out.cell 3
        have k4 := HB9.out.cell 4
        have k5 := HB9.out.cell 5
        have k6 := HB9.out.cell 6
        have k7 := HB9.out.cell 7
        have k8 := HB9.out.cell 8
        simp at k0 k1 k2 k3 k4 k5 k6 k7 k8
        refine bodyPost_ret (v := .agg #[.int .i64 e.op, .int .i64 e.n, .int .i64 e.m, .int .i64 e.kind, .int .i64 e.lit.k, .int .i64 e.lit.n, .string e.lit.s, .slice A2 hs.length c2, .slice R e.rels.length d]) (by simp [results, Tryz.results41, go_sem, k0, k1, k2, k3, k4, k5, k6, k7, k8]) rfl ⟨⟨.mk e.op (e.n) e.m e.kind e.lit (hs.map HE.e) e.rels, A2, c2, R, d⟩, ?_, ?_, st9 HC.out.lo (by omega) _ _ _ _ _ _ _ _ _, ?_, ?_⟩
        · show E.mk e.op e.n e.m e.kind e.lit (hs.map HE.e) e.rels = e
          rw [HD.out, List.map_id']; exact (E.eta e).symm
        · simp [HE.val, E.val, E.op, E.n, E.m, E.kind, E.lit, E.args, E.rels]
        · show LOk _ _ _ (hs.map HE.e)
          exact HLk.out.kept (fun b hb => set9_far _ _ _ _ _ _ _ _ _ _ _ b (by have := hb.1; omega)) fun b hb => ⟨by have := hb.1; omega, by rw [set9_size]; exact hb.2⟩
        · show ROk _ _ _ e.rels
          rw [HRl.out]; exact fun h => absurd h (Nat.lt_irrefl 0)
end Go.Proofs.YtdiehgfldndgbaaGreatDoor
namespace Go.Proofs.YtdiehgfldndgbaaGreatDoor
open Go.RowKit Go.Deep

set_option maxHeartbeats 8000000 in
set_option maxRecDepth 100000 in
theorem Replaced_any (bys : List E) (hbs : ∀ b ∈ bys, shapedE 24 b = true ∧ nodesE b < 10000) : ∀ (k q : Nat) (e : E) (A R : Option Addr) (c d : Nat) (Ab : Option Addr) (cb : Nat) (w : World), nodesE e < k → k ≤ 10000 → shapedE q e = true → LOk w (Lo w.heap.size) A e.args → LOk w (Lo w.heap.size) Ab bys → (∀ x ∈ lvsE e, x.op = 1 → 0 ≤ x.n ∧ x.n.toNat < bys.length) →
    Calls Tryz.prog 26 #[e.val A c R d, .slice Ab bys.length cb] w fun x w' => ∃ h : HE, h.e = mapE (rpF bys) e ∧ x = .returned (.tuple #[h.val, .bool true]) ∧ Below w.heap.size w w' ∧ h.ok w' (NwB w.heap.size w'.heap.size) := by
  intro k
  induction k with
  | zero => intro q e A R c d Ab cb w h; exact absurd h (Nat.not_lt_zero _)
  | succ k ih =>
    intro q e A R c d Ab cb w hk hk1 hsh hA hM hlv
    obtain ⟨q, rfl⟩ : ∃ q', q = q' + 1 := by
      cases q with
      | zero => rw [shapedE_zero] at hsh; cases hsh
      | succ q => exact ⟨q, rfl⟩
    rw [shapedE_succ, Bool.and_eq_true] at hsh
    have hnE := nodesE_args e
    have hln := nodesL_len e.args
    have HRl := Lib.hid (node_cases hsh.1).1
    have hl16 := node_args hsh.1
    have hcs := (node_cases hsh.1).2
    have HA := Lib.hid (And.intro hA (And.intro hsh.2 hM))
    have IH := Lib.hid ih
    have HLv := Lib.hid hlv
    by_cases ho : e.op = 1
    · have ha0 : e.args = [] ∧ 0 ≤ e.n := by
        rcases hcs with h | h | h | h
        · exact ⟨h.2.2, h.2.1⟩
        · omega
        · omega
        · omega
      have hx := (hlv (.mk e.op e.n e.m e.kind e.lit [] []) (by rw [lvsE_leaf e ha0.1]; exact List.mem_singleton.2 rfl) ho).2
      have hlt : e.n.toNat < bys.length := hx
      obtain ⟨n, hn⟩ : ∃ n : Nat, e.n = n := ⟨e.n.toNat, by omega⟩
      rw [hn, Int.toNat_natCast] at hlt
      have hlti : (n : Int) < (bys.length : Int) := by omega
      have hge : decide ((bys.length : Int) ≤ (n : Int)) = false := decide_eq_false (by omega)
      have hgen : decide (bys.length ≤ n) = false := decide_eq_false (by omega)
      have hn0 : (0 : Int) ≤ (n : Int) := by omega
      have HF : Hid (bys[n] = mapE (rpF bys) e) := Lib.hid (by
        rw [mapE_leaf _ e ha0.1]
        unfold rpF
        show _ = if e.op = 1 then (bys[e.n.toNat]?).getD _ else _
        rw [if_pos ho, hn, Int.toNat_natCast, List.getElem?_eq_getElem hlt]; rfl)
      have hbn := hbs _ (List.getElem_mem hlt)
      obtain ⟨b, o, A', c', R', d', rfl, hZ, hL, -⟩ := hM.eat hlt
      have hb0 : Below w.heap.size w ((w.alloc (.cells #[.int .i64 1, .int .i64 (n : Nat), .int .i64 e.m, .int .i64 e.kind, .int .i64 e.lit.k, .int .i64 e.lit.n, .string e.lit.s, .slice A e.args.length c, .slice R e.rels.length d] 30)).alloc (.cells #[.int .i64 0, .int .i64 0, .int .i64 0, .int .i64 0, .int .i64 0, .int .i64 0, .string ⟨#[]⟩, .slice none 0 0, .slice none 0 0] 30)) := al (al (Below.refl _ _) _) _
      have HS : Hid (Below w.heap.size w ((w.alloc (.cells #[.int .i64 1, .int .i64 (n : Nat), .int .i64 e.m, .int .i64 e.kind, .int .i64 e.lit.k, .int .i64 e.lit.n, .string e.lit.s, .slice A e.args.length c, .slice R e.rels.length d] 30)).alloc (.cells #[.int .i64 0, .int .i64 0, .int .i64 0, .int .i64 0, .int .i64 0, .int .i64 0, .string ⟨#[]⟩, .slice none 0 0, .slice none 0 0] 30)) ∧ Blk ((w.alloc (.cells #[.int .i64 1, .int .i64 (n : Nat), .int .i64 e.m, .int .i64 e.kind, .int .i64 e.lit.k, .int .i64 e.lit.n, .string e.lit.s, .slice A e.args.length c, .slice R e.rels.length d] 30)).alloc (.cells #[.int .i64 0, .int .i64 0, .int .i64 0, .int .i64 0, .int .i64 0, .int .i64 0, .string ⟨#[]⟩, .slice none 0 0, .slice none 0 0] 30)) (w.heap.size + 1) 30 #[.int .i64 0, .int .i64 0, .int .i64 0, .int .i64 0, .int .i64 0, .int .i64 0, .string ⟨#[]⟩, .slice none 0 0, .slice none 0 0] ∧ EAt ((w.alloc (.cells #[.int .i64 1, .int .i64 (n : Nat), .int .i64 e.m, .int .i64 e.kind, .int .i64 e.lit.k, .int .i64 e.lit.n, .string e.lit.s, .slice A e.args.length c, .slice R e.rels.length d] 30)).alloc (.cells #[.int .i64 0, .int .i64 0, .int .i64 0, .int .i64 0, .int .i64 0, .int .i64 0, .string ⟨#[]⟩, .slice none 0 0, .slice none 0 0] 30)) b (o + n * 9) bys[n] A' c' R' d') := Lib.hid ⟨hb0, Blk.new' (by simp), hZ.below hb0⟩
      have HCp := Lib.hid (RCopyE_any 10000 24 bys[n] A' R' c' d' ((w.alloc (.cells #[.int .i64 1, .int .i64 (n : Nat), .int .i64 e.m, .int .i64 e.kind, .int .i64 e.lit.k, .int .i64 e.lit.n, .string e.lit.s, .slice A e.args.length c, .slice R e.rels.length d] 30)).alloc (.cells #[.int .i64 0, .int .i64 0, .int .i64 0, .int .i64 0, .int .i64 0, .int .i64 0, .string ⟨#[]⟩, .slice none 0 0, .slice none 0 0] 30)) hbn.2 (Nat.le_refl _) hbn.1 (hL.below hb0 hb0.size))
      generalize bys[n] = y at *
      have hZ := HS.out.2.2
      have x0 := hZ.c0
      have x1 := hZ.c1
      have x2 := hZ.c2
      have x3 := hZ.c3
      have x4 := hZ.c4
      have x5 := hZ.c5
      have x6 := hZ.c6
      have x7 := hZ.c7
      have x8 := hZ.c8
      clear ih hA hsh hM hlv hcs hx ha0 hb0 hZ hL hbn
      unfold E.val at HCp ⊢
      rw [ho, hn]
      have HO := Lib.hid (And.intro ho hn)
      clear ho hn
      go_enter Tryz.func26, Tryz.ntmps26
      go_wp2_with fail
      refine HCp.out.mono ?_
      rintro x w3 ⟨h, hhe, rfl, hb3, hok⟩
      have H3 : Hid (Below w.heap.size w w3 ∧ Blk w3 (w.heap.size + 1) 30 #[.int .i64 0, .int .i64 0, .int .i64 0, .int .i64 0, .int .i64 0, .int .i64 0, .string ⟨#[]⟩, .slice none 0 0, .slice none 0 0] ∧ h.e = y ∧ h.ok w3 (NwB (w.heap.size + 1 + 1) w3.heap.size)) := Lib.hid ⟨thn HS.out.1 hb3, HS.out.2.1.below hb3 HS.out.2.1.lt, hhe, hok.kept (fun _ _ => rfl) fun b hb => ⟨by have := hb.1; simp at this; omega, hb.2⟩⟩
      clear hb3 hok hhe HCp HS x0 x1 x2 x3 x4 x5 x6 x7 x8
      unfold HE.val E.val
      have hq := H3.out.2.1
      have hql := hq.lt
      have f0 := hq.frozen 0
      have f1 := hq.frozen 1
      have f2 := hq.frozen 2
      have f3 := hq.frozen 3
      have f4 := hq.frozen 4
      have f5 := hq.frozen 5
      have f6 := hq.frozen 6
      have f7 := hq.frozen 7
      have f8 := hq.frozen 8
      have d0 := hq.cell 0
      have d1 := hq.cell 1
      have d2 := hq.cell 2
      have d3 := hq.cell 3
      have d4 := hq.cell 4
      have d5 := hq.cell 5
      have d6 := hq.cell 6
      have d7 := hq.cell 7
      have d8 := hq.cell 8
      simp only [List.getElem?_toArray, List.getElem?_cons_succ, List.getElem?_cons_zero] at d0 d1 d2 d3 d4 d5 d6 d7 d8
      clear hq
      have HB9 := Lib.hid (H3.out.2.1.set9_ (.int .i64 h.e.op) (.int .i64 h.e.n) (.int .i64 h.e.m) (.int .i64 h.e.kind) (.int .i64 h.e.lit.k) (.int .i64 h.e.lit.n) (.string h.e.lit.s) (.slice h.A h.e.args.length h.c) (.slice h.R h.e.rels.length h.d))
      go_wp2_with fail
      have k0 := HB9.out.cell 0
      have k1 := HB9.out.cell 1
      have k2 := HB9.out.cell 2
      have k3 := HB9.out.cell 3
      have k4 := HB9.out.cell 4
      have k5 := HB9.out.cell 5
      have k6 := HB9.out.cell 6
      have k7 := HB9.out.cell 7
      have k8 := HB9.out.cell 8
      simp at k0 k1 k2 k3 k4 k5 k6 k7 k8
      exact bodyPost_ret (v := .tuple #[.agg #[.int .i64 h.e.op, .int .i64 h.e.n, .int .i64 h.e.m, .int .i64 h.e.kind, .int .i64 h.e.lit.k, .int .i64 h.e.lit.n, .string h.e.lit.s, .slice h.A h.e.args.length h.c, .slice h.R h.e.rels.length h.d], .bool true]) (by simp [results, Tryz.results26, go_sem, k0, k1, k2, k3, k4, k5, k6, k7, k8]) rfl ⟨h, H3.out.2.2.1.trans HF.out, rfl, st9 H3.out.1 (by omega) _ _ _ _ _ _ _ _ _, H3.out.2.2.2.kept (fun b hb => set9_far _ _ _ _ _ _ _ _ _ _ _ b (by have := hb.1; omega)) fun b hb => ⟨by have := hb.1; omega, by rw [set9_size]; exact hb.2⟩⟩
    · have hob : (e.op == 1) = false := beq_eq_false_iff_ne.2 ho
      have HF : Hid (.mk e.op e.n e.m e.kind e.lit (e.args.map (mapE (rpF bys))) e.rels = mapE (rpF bys) e) := Lib.hid (by
        rw [HRl.out]
        by_cases h0 : e.args = []
        · rw [mapE_leaf _ e h0, h0]
          show E.mk e.op e.n e.m e.kind e.lit [] [] = rpF bys (.mk e.op e.n e.m e.kind e.lit [] [])
          exact (if_neg ho).symm
        · rw [mapE_node _ e h0])
      have HS := Lib.hid (CInv2.start e (e.n) A R c d w (.slice none 0 0))
      clear ih hA hsh hM hcs hlv
      unfold E.val
      go_enter Tryz.func26, Tryz.ntmps26
      go_wp2_with fail
      go_loopw [7] (fun iv wr => ∃ (j : Nat) (v : Value) (hs : List HE), j ≤ e.args.length ∧ iv = .int .i64 j ∧ Hid (CInv2 e (e.n) A R c d w wr v) ∧ Hid (hs.map HE.e = (e.args.take j).map (mapE (rpF bys)) ∧ hs.length = j ∧ CArgs (w.heap.size + 1 + 1 + 1) wr v hs)) (fun iv _ => e.args.length - (intOf iv).toNat)
      case atStart => exact ⟨0, .slice none 0 0, [], Nat.zero_le _, rfl, HS.out, ⟨rfl, rfl, CArgs.nil _ _⟩⟩
      case round =>
        obtain ⟨j, v, hs, hj, rfl, HC, HH⟩ := hrel
        have y7 := HC.out.par.cell 7
        simp only [List.getElem?_toArray, List.getElem?_cons_succ, List.getElem?_cons_zero] at y7
        by_cases hlt : j < e.args.length
        · have hlti : (j : Int) < (e.args.length : Int) := by omega
          have hj0 : (0 : Int) ≤ (j : Int) := by omega
          obtain ⟨b, o, A', c', R', d', rfl, hZ, hLj, -⟩ := (HA.out.1.below HC.out.lo HC.out.lo.size).eat hlt
          have hmm := nodesL_mem (List.getElem_mem hlt)
          have HT := Lib.hid (List.take_succ_eq_append_getElem hlt)
          have HK : Hid (Calls Tryz.prog 26 #[e.args[j].val A' c' R' d', .slice Ab bys.length cb] wr fun x w2 => ∃ h : HE, h.e = mapE (rpF bys) e.args[j] ∧ x = .returned (.tuple #[h.val, .bool true]) ∧ Below wr.heap.size wr w2 ∧ h.ok w2 (NwB wr.heap.size w2.heap.size)) := Lib.hid
            (IH.out q e.args[j] A' R' c' d' Ab cb wr (by omega) (by omega) (shapedL_mem HA.out.2.1 _ (List.getElem_mem hlt)) hLj (HA.out.2.2.below HC.out.lo HC.out.lo.size) (fun y hy => HLv.out y (lvsE_mem (fun h0 => by rw [h0] at hlt; exact absurd hlt (Nat.not_lt_zero _)) (List.getElem_mem hlt) hy)))
          obtain ⟨xj, hxj⟩ : ∃ x, x = mapE (rpF bys) e.args[j] := ⟨_, rfl⟩
          have HJ : Hid (mapE (rpF bys) e.args[j] = xj) := Lib.hid hxj.symm
          rw [← hxj] at HK
          clear hxj hmm hLj
          generalize e.args[j] = ej at *
          unfold E.val at HK
          have x0 := hZ.c0
          have x1 := hZ.c1
          have x2 := hZ.c2
          have x3 := hZ.c3
          have x4 := hZ.c4
          have x5 := hZ.c5
          have x6 := hZ.c6
          have x7 := hZ.c7
          have x8 := hZ.c8
          clear hZ
          go_wp2_with fail
          refine HK.out.mono ?_
          rintro x w2 ⟨h, hhe, rfl, hb2, hok⟩
          have hb3 : ∀ o1 o2, Below wr.heap.size wr ((w2.alloc o1).alloc o2) := fun o1 o2 => al (al hb2 _) _
          have HB3 := Lib.hid hb3
          have HC2 := Lib.hid (HC.out.below hb2)
          have HO2 : Hid (h.e = xj ∧ h.ok w2 (fun b => wr.heap.size ≤ b ∧ b < w2.heap.size) ∧ wr.heap.size ≤ w2.heap.size) := Lib.hid ⟨hhe, hok, hb2.size⟩
          have hs2 := hb2.size
          have hs0 := HC.out.out.lt
          clear hb2 hok hhe hb3 HK x0 x1 x2 x3 x4 x5 x6 x7 x8
          unfold HE.val E.val
          have r7 := HC2.out.out.cell 7
          simp only [List.getElem?_toArray, List.getElem?_cons_succ, List.getElem?_cons_zero] at r7
          have hBl : w.heap.size + 1 + 1 < w2.heap.size := by omega
          obtain ⟨i0, hi, hz0, hz1, hz2⟩ := info_parts infoE
          have hhl : hs.length ≤ 16 := by have := HH.out.2.1; omega
          go_wp2_with (at_builtin; refine wpList_append_any _ rfl (.tmp 48) (.tmp 50) 22 rfl (w.heap.size + 1 + 1 + 1) 30 i0 (.agg #[.int .i64 0, .int .i64 0, .int .i64 0, .int .i64 0, .int .i64 0, .int .i64 0, .string ⟨#[]⟩, .slice none 0 0, .slice none 0 0]) 9 112 Tryz.underlying22 hi hz0 hz1 hz2 rfl (by decide) v hs.length (hcells hs) rfl (own_below HH.out.2.2.1 (HB3.out _ _)) (w2.heap.size + 1 + 1) (some ⟨w2.heap.size + 1, 0, none⟩) 1 1 (hcells [h]) rfl ?c0 (hcells_one _) ?c1 ?c2 ?c3 ?_)
          case c0 => exact Reads.he (Blk.new' (g := w2.heap.size + 1) (by simp)) (Nat.lt_succ_self _)
          case c1 => unfold maxLen; omega
          case c2 => omega
          case c3 => simp; omega
          intro v' w4 hown4 hgrow hvb
          have HB4 := (HC.out.below (HB3.out _ _)).grown hgrow (fun g hg => (HH.out.2.2.1.lt g hg).1)
          have hq := HB4.out
          have s7 := hq.cell 7
          have f7 := hq.frozen 7
          simp only [List.getElem?_toArray, List.getElem?_cons_succ, List.getElem?_cons_zero] at s7
          clear hq
          have HN : Hid (CInv2 e (e.n) (some ⟨b, o, none⟩) R c d w (w4.setCell ⟨w.heap.size + 1 + 1, 7, none⟩ v') v' ∧ CArgs (w.heap.size + 1 + 1 + 1) (w4.setCell ⟨w.heap.size + 1 + 1, 7, none⟩ v') v' (hs ++ [h])) := Lib.hid ⟨HB4.set7 v', (HH.out.2.2.snocW (HB3.out _ _) (by omega) (HO2.out.2.1.kept (fun b hb => (Below.heap_alloc _ _ b (by have := hb.2; simp; omega)).trans (Below.heap_alloc w2 _ b hb.2)) fun b hb => ⟨hb.1, by have := hb.2; simp; omega⟩) hown4 hgrow (by simpa using hvb)).set_ (by omega) v'⟩
          have HL : Hid ((hs ++ [h]).map HE.e = (e.args.take (j + 1)).map (mapE (rpF bys)) ∧ (hs ++ [h]).length = j + 1) := Lib.hid ⟨by rw [HT.out, List.map_append, List.map_append, HH.out.1, List.map_singleton, List.map_singleton, HO2.out.1]; first | done | rw [HJ.out], by rw [List.length_append, HH.out.2.1]; rfl⟩
          obtain ⟨A2, d2, rfl⟩ := own_slc hown4
          clear hown4 hgrow hvb HB4
          go_wp2_with fail
          first | exact ⟨⟨j + 1, _, hs ++ [h], by omega, by go_num, Lib.hid HN.out.1, Lib.hid ⟨HL.out.1, HL.out.2, HN.out.2⟩⟩, by simp [intOf]; omega⟩ | (go_roundw; case rel => exact ⟨j + 1, _, hs ++ [h], by omega, by go_num, Lib.hid HN.out.1, Lib.hid ⟨HL.out.1, HL.out.2, HN.out.2⟩⟩; case measure => simp [intOf]; omega)
        · have hlf : decide ((j : Int) < (e.args.length : Int)) = false := decide_eq_false (by omega)
          have HD : Hid (hs.map HE.e = e.args.map (mapE (rpF bys))) := Lib.hid (by rw [HH.out.1, List.take_of_length_le (by omega)])
          obtain ⟨A2, c2, rfl, hLk⟩ := HH.out.2.2.reads
          have HLk := Lib.hid hLk
          clear hLk
          have hq := HC.out.out
          have x0 := hq.cell 0
          have x1 := hq.cell 1
          have x2 := hq.cell 2
          have x3 := hq.cell 3
          have x4 := hq.cell 4
          have x5 := hq.cell 5
          have x6 := hq.cell 6
          have x7 := hq.cell 7
          have x8 := hq.cell 8
          simp only [List.getElem?_toArray, List.getElem?_cons_succ, List.getElem?_cons_zero] at x0 x1 x2 x3 x4 x5 x6 x7 x8
          clear hq
          have hq := HC.out.res
          have hql := hq.lt
          have f0 := hq.frozen 0
          have f1 := hq.frozen 1
          have f2 := hq.frozen 2
          have f3 := hq.frozen 3
          have f4 := hq.frozen 4
          have f5 := hq.frozen 5
          have f6 := hq.frozen 6
          have f7 := hq.frozen 7
          have f8 := hq.frozen 8
          have d0 := hq.cell 0
          have d1 := hq.cell 1
          have d2 := hq.cell 2
          have d3 := hq.cell 3
          have d4 := hq.cell 4
          have d5 := hq.cell 5
          have d6 := hq.cell 6
          have d7 := hq.cell 7
          have d8 := hq.cell 8
          simp only [List.getElem?_toArray, List.getElem?_cons_succ, List.getElem?_cons_zero] at d0 d1 d2 d3 d4 d5 d6 d7 d8
          clear hq
          have HB9 := Lib.hid (HC.out.res.set9_ (.int .i64 e.op) (.int .i64 e.n) (.int .i64 e.m) (.int .i64 e.kind) (.int .i64 e.lit.k) (.int .i64 e.lit.n) (.string e.lit.s) (.slice A2 hs.length c2) (.slice R e.rels.length d))
          go_wp2_with fail
          have k0 := HB9.out.cell 0
          have k1 := HB9.out.cell 1
          have k2 := HB9.out.cell 2
          have k3 := HB9.out.cell 3
          have k4 := HB9.out.cell 4
          have k5 := HB9.out.cell 5
          have k6 := HB9.out.cell 6
          have k7 := HB9.out.cell 7
          have k8 := HB9.out.cell 8
          simp at k0 k1 k2 k3 k4 k5 k6 k7 k8
          refine bodyPost_ret (v := .tuple #[.agg #[.int .i64 e.op, .int .i64 e.n, .int .i64 e.m, .int .i64 e.kind, .int .i64 e.lit.k, .int .i64 e.lit.n, .string e.lit.s, .slice A2 hs.length c2, .slice R e.rels.length d], .bool true]) (by simp [results, Tryz.results26, go_sem, k0, k1, k2, k3, k4, k5, k6, k7, k8]) rfl ⟨⟨.mk e.op e.n e.m e.kind e.lit (hs.map HE.e) e.rels, A2, c2, R, d⟩, ?_, ?_, st9 HC.out.lo (by omega) _ _ _ _ _ _ _ _ _, ?_, ?_⟩
          · show E.mk e.op e.n e.m e.kind e.lit (hs.map HE.e) e.rels = mapE (rpF bys) e
            rw [HD.out]
            exact HF.out
          · simp [HE.val, E.val, E.op, E.n, E.m, E.kind, E.lit, E.args, E.rels]
          · show LOk _ _ _ (hs.map HE.e)
            exact HLk.out.kept (fun b hb => set9_far _ _ _ _ _ _ _ _ _ _ _ b (by have := hb.1; omega)) fun b hb => ⟨by have := hb.1; omega, by rw [set9_size]; exact hb.2⟩
          · show ROk _ _ _ e.rels
            rw [HRl.out]; exact fun h => absurd h (Nat.lt_irrefl 0)
end Go.Proofs.YtdiehgfldndgbaaGreatDoor
namespace Go.Proofs.YtdiehgfldndgbaaGreatDoor
open Go.RowKit Go.Deep
theorem nodesL_app : ∀ (a b : List E), nodesL (a ++ b) = nodesL a + nodesL b
  | [], b => by simp [nodesL]
  | e :: a, b => by rw [List.cons_append, nodesL, nodesL, nodesL_app a b]; omega

theorem formE_nodes {e : E} (h : formE e = true) : nodesN e = nodesE e := by
  have h2 := (formE_iff.1 h).2
  exact (nodesN_iff e).2 ((nodesN_iff e).1.2 h2)
theorem mapL_bound {f : E → E} {K : Nat} (hK : 1 ≤ K) (l : List E) (hf : ∀ x ∈ lvsL l, nodesE (f x) ≤ K) : nodesL (l.map (mapE f)) ≤ nodesL l * K := by rw [← mapL_map]; exact mapL_many hK l hf
set_option maxHeartbeats 4000000 in
set_option maxRecDepth 100000 in
theorem RNodes_any (e : E) (A R : Option Addr) (c d : Nat) (w : World) (hn : nodesE e < 1000000) (hA : LOk w (Lo w.heap.size) A e.args) :
    Calls Tryz.prog 66 #[e.val A c R d] w fun x w' => x = .returned (.int .i64 (nodesN e : Nat)) ∧ Below w.heap.size w w' := by
  have hb0 : Below w.heap.size w (w.alloc (.cells #[.int .i64 e.op, .int .i64 e.n, .int .i64 e.m, .int .i64 e.kind, .int .i64 e.lit.k, .int .i64 e.lit.n, .string e.lit.s, .slice A e.args.length c, .slice R e.rels.length d] 30)) := al (Below.refl _ _) _
  have HN := Lib.hid (nodes_any 1000000 e A R c d (w.alloc (.cells #[.int .i64 e.op, .int .i64 e.n, .int .i64 e.m, .int .i64 e.kind, .int .i64 e.lit.k, .int .i64 e.lit.n, .string e.lit.s, .slice A e.args.length c, .slice R e.rels.length d] 30)) hn (Nat.le_refl _) (hA.below hb0 hb0.size))
  have HB0 := Lib.hid hb0
  clear hA hb0
  unfold E.val at HN ⊢
  go_enter Tryz.func66, Tryz.ntmps66
  go_wp2_with fail
  refine HN.out.mono ?_
  rintro x w2 ⟨rfl, hb2⟩
  have H2 := Lib.hid (thn HB0.out hb2)
  clear hb2
  go_wp2_with fail
  go_ret
  exact ⟨rfl, H2.out⟩
set_option maxHeartbeats 4000000 in
set_option maxRecDepth 100000 in
theorem many_any (bys : List E) (hbs : ∀ b ∈ bys, formE b = true ∧ nodesE b ≤ 420) : ∀ (k q : Nat) (e : E) (A R : Option Addr) (c d : Nat) (Ab : Option Addr) (cb : Nat) (w : World), nodesE e < k → k ≤ 1000 → shapedE q e = true → LOk w (Lo w.heap.size) A e.args → LOk w (Lo w.heap.size) Ab bys → (∀ x ∈ lvsE e, x.op = 1 → 0 ≤ x.n ∧ x.n.toNat < bys.length) →
    Calls Tryz.prog 25 #[e.val A c R d, .slice Ab bys.length cb] w fun x w' => x = .returned (.int .i64 (nodesE (mapE (rpF bys) e) : Nat)) ∧ Below w.heap.size w w' := by
  intro k
  induction k with
  | zero => intro q e A R c d Ab cb w h; exact absurd h (Nat.not_lt_zero _)
  | succ k ih =>
    intro q e A R c d Ab cb w hk hk1 hsh hA hM hlv
    obtain ⟨q, rfl⟩ : ∃ q', q = q' + 1 := by
      cases q with
      | zero => rw [shapedE_zero] at hsh; cases hsh
      | succ q => exact ⟨q, rfl⟩
    have hsh0 := hsh
    rw [shapedE_succ, Bool.and_eq_true] at hsh
    have hnE := nodesE_args e
    have hln := nodesL_len e.args
    have hl16 := node_args hsh.1
    have hcs := (node_cases hsh.1).2
    have HA := Lib.hid (And.intro hA (And.intro hsh.2 hM))
    have IH := Lib.hid ih
    have HLv := Lib.hid hlv
    by_cases ho : e.op = 1
    · have ha0 : e.args = [] ∧ 0 ≤ e.n := by
        rcases hcs with h | h | h | h
        · exact ⟨h.2.2, h.2.1⟩
        · omega
        · omega
        · omega
      have hlt : e.n.toNat < bys.length := (hlv (.mk e.op e.n e.m e.kind e.lit [] []) (by rw [lvsE_leaf e ha0.1]; exact List.mem_singleton.2 rfl) ho).2
      obtain ⟨n, hn⟩ : ∃ n : Nat, e.n = n := ⟨e.n.toNat, by omega⟩
      rw [hn, Int.toNat_natCast] at hlt
      have hlti : (n : Int) < (bys.length : Int) := by omega
      have hn0 : (0 : Int) ≤ (n : Int) := by omega
      have hbn := hbs _ (List.getElem_mem hlt)
      have HF : Hid (nodesE (mapE (rpF bys) e) = nodesN bys[n]) := Lib.hid (by
        rw [formE_nodes hbn.1, mapE_leaf _ e ha0.1]
        unfold rpF
        show nodesE (if e.op = 1 then (bys[e.n.toNat]?).getD _ else _) = _
        rw [if_pos ho, hn, Int.toNat_natCast, List.getElem?_eq_getElem hlt]; rfl)
      obtain ⟨b, o, A', c', R', d', rfl, hZ, hL, -⟩ := hM.eat hlt
      have hb0 : Below w.heap.size w (w.alloc (.cells #[.int .i64 1, .int .i64 (n : Nat), .int .i64 e.m, .int .i64 e.kind, .int .i64 e.lit.k, .int .i64 e.lit.n, .string e.lit.s, .slice A e.args.length c, .slice R e.rels.length d] 30)) := al (Below.refl _ _) _
      have hZ2 := hZ.below hb0
      have HB0 := Lib.hid hb0
      have HNd := Lib.hid (RNodes_any bys[n] A' R' c' d' (w.alloc (.cells #[.int .i64 1, .int .i64 (n : Nat), .int .i64 e.m, .int .i64 e.kind, .int .i64 e.lit.k, .int .i64 e.lit.n, .string e.lit.s, .slice A e.args.length c, .slice R e.rels.length d] 30)) (by omega) (hL.below hb0 hb0.size))
      generalize nodesN bys[n] = nn at *
      generalize bys[n] = y at *
      have x0 := hZ2.c0
      have x1 := hZ2.c1
      have x2 := hZ2.c2
      have x3 := hZ2.c3
      have x4 := hZ2.c4
      have x5 := hZ2.c5
      have x6 := hZ2.c6
      have x7 := hZ2.c7
      have x8 := hZ2.c8
      clear ih hA hsh hM hlv hcs ha0 hb0 hZ hZ2 hL hbn hsh0
      unfold E.val at HNd ⊢
      rw [ho, hn]
      have HO := Lib.hid (And.intro ho hn)
      clear ho hn
      go_enter Tryz.func25, Tryz.ntmps25
      go_wp2_with fail
      refine HNd.out.mono ?_
      rintro x w3 ⟨rfl, hb3⟩
      have H3 := Lib.hid (thn HB0.out hb3)
      clear hb3 x0 x1 x2 x3 x4 x5 x6 x7 x8 HNd HB0
      go_wp2_with fail
      go_ret
      exact ⟨by rw [HF.out]; rfl, H3.out⟩
    · have hob : (e.op == 1) = false := beq_eq_false_iff_ne.2 ho
      have hleaf : ∀ x ∈ lvsE e, nodesE (rpF bys x) ≤ 420 := fun x hx => by
        have h1 : nodesE x ≤ 420 := by
          obtain ⟨_, ha, _⟩ := lvs_node (q + 1) e x hsh0 hx
          rw [nodesE_args, ha, nodesL]
          decide
        unfold rpF
        split
        · rcases Nat.lt_or_ge x.n.toNat bys.length with hl | hl
          · rw [List.getElem?_eq_getElem hl]
            exact (hbs _ (List.getElem_mem hl)).2
          · rw [List.getElem?_eq_none hl]
            exact h1
        · exact h1
      have HBd : Hid (∀ j, j ≤ e.args.length → nodesL ((e.args.take j).map (mapE (rpF bys))) ≤ 420000) := Lib.hid fun j hj => by
        by_cases h0 : e.args = []
        · rw [h0]; simp [nodesL]
        · have h1 := mapL_bound (K := 420) (by decide) (e.args.take j) (f := rpF bys) fun x hx => hleaf x (by
            obtain ⟨y, hy, hxy⟩ := lvsL_iff.1 hx
            exact lvsE_mem h0 (List.mem_of_mem_take hy) hxy)
          have h2 := nodesL_app (e.args.take j) (e.args.drop j)
          rw [List.take_append_drop] at h2
          have h3 : nodesL (e.args.take j) ≤ 1000 := by omega
          have h4 : nodesL (e.args.take j) * 420 ≤ 1000 * 420 := Nat.mul_le_mul_right _ h3
          omega
      have HF : Hid (nodesE (mapE (rpF bys) e) = 1 + nodesL (e.args.map (mapE (rpF bys)))) := Lib.hid (by
        by_cases h0 : e.args = []
        · rw [mapE_leaf _ e h0, h0]
          show nodesE (rpF bys (.mk e.op e.n e.m e.kind e.lit [] [])) = 1 + nodesL []
          rw [show rpF bys (.mk e.op e.n e.m e.kind e.lit [] []) = .mk e.op e.n e.m e.kind e.lit [] [] from if_neg ho, nodesE]
        · rw [mapE_node _ e h0, nodesE_args]; rfl)
      have HS : Hid (Below w.heap.size w (w.alloc (.cells #[.int .i64 e.op, .int .i64 e.n, .int .i64 e.m, .int .i64 e.kind, .int .i64 e.lit.k, .int .i64 e.lit.n, .string e.lit.s, .slice A e.args.length c, .slice R e.rels.length d] 30)) ∧ Blk (w.alloc (.cells #[.int .i64 e.op, .int .i64 e.n, .int .i64 e.m, .int .i64 e.kind, .int .i64 e.lit.k, .int .i64 e.lit.n, .string e.lit.s, .slice A e.args.length c, .slice R e.rels.length d] 30)) w.heap.size 30 #[.int .i64 e.op, .int .i64 e.n, .int .i64 e.m, .int .i64 e.kind, .int .i64 e.lit.k, .int .i64 e.lit.n, .string e.lit.s, .slice A e.args.length c, .slice R e.rels.length d]) := Lib.hid ⟨al (Below.refl _ _) _, Blk.new _ _ _⟩
      clear ih hA hsh hM hcs hlv hsh0 hleaf
      unfold E.val
      go_enter Tryz.func25, Tryz.ntmps25
      go_wp2_with fail
      go_loopw [5, 6] (fun nv iv wr => ∃ j : Nat, j ≤ e.args.length ∧ iv = .int .i64 j ∧ nv = .int .i64 ((1 + nodesL ((e.args.take j).map (mapE (rpF bys))) : Nat) : Int) ∧ Hid (Below w.heap.size w wr ∧ Blk wr w.heap.size 30 #[.int .i64 e.op, .int .i64 e.n, .int .i64 e.m, .int .i64 e.kind, .int .i64 e.lit.k, .int .i64 e.lit.n, .string e.lit.s, .slice A e.args.length c, .slice R e.rels.length d])) (fun _ iv _ => e.args.length - (intOf iv).toNat)
      case atStart => exact ⟨0, Nat.zero_le _, rfl, rfl, HS.out⟩
      case round =>
        obtain ⟨j, hj, rfl, rfl, HC⟩ := hrel
        have y7 := HC.out.2.cell 7
        simp only [List.getElem?_toArray, List.getElem?_cons_succ, List.getElem?_cons_zero] at y7
        by_cases hlt : j < e.args.length
        · have hlti : (j : Int) < (e.args.length : Int) := by omega
          have hj0 : (0 : Int) ≤ (j : Int) := by omega
          obtain ⟨b, o, A', c', R', d', rfl, hZ, hLj, -⟩ := (HA.out.1.below HC.out.1 HC.out.1.size).eat hlt
          have hmm := nodesL_mem (List.getElem_mem hlt)
          have hbd := HBd.out (j + 1) (by omega)
          have hadd : nodesL ((e.args.take (j + 1)).map (mapE (rpF bys))) = nodesL ((e.args.take j).map (mapE (rpF bys))) + nodesE (mapE (rpF bys) e.args[j]) := by
            rw [List.take_succ_eq_append_getElem hlt, List.map_append, nodesL_app, List.map_singleton, nodesL, nodesL]; omega
          have HK : Hid (Calls Tryz.prog 25 #[e.args[j].val A' c' R' d', .slice Ab bys.length cb] wr fun x w2 => x = .returned (.int .i64 (nodesE (mapE (rpF bys) e.args[j]) : Nat)) ∧ Below wr.heap.size wr w2) := Lib.hid
            (IH.out q e.args[j] A' R' c' d' Ab cb wr (by omega) (by omega) (shapedL_mem HA.out.2.1 _ (List.getElem_mem hlt)) hLj (HA.out.2.2.below HC.out.1 HC.out.1.size) (fun y hy => HLv.out y (lvsE_mem (fun h0 => by rw [h0] at hlt; exact absurd hlt (Nat.not_lt_zero _)) (List.getElem_mem hlt) hy)))
          generalize nodesE (mapE (rpF bys) e.args[j]) = z at *
          obtain ⟨p, hp⟩ : ∃ p, p = nodesL ((e.args.take j).map (mapE (rpF bys))) := ⟨_, rfl⟩
          rw [← hp] at hadd ⊢
          have HAd := Lib.hid hadd
          rw [hadd] at hbd
          clear hp hmm hLj hadd
          generalize e.args[j] = ej at *
          unfold E.val at HK
          have x0 := hZ.c0
          have x1 := hZ.c1
          have x2 := hZ.c2
          have x3 := hZ.c3
          have x4 := hZ.c4
          have x5 := hZ.c5
          have x6 := hZ.c6
          have x7 := hZ.c7
          have x8 := hZ.c8
          clear hZ
          go_wp2_with fail
          refine HK.out.mono ?_
          rintro x w2 ⟨rfl, hb2⟩
          have HN : Hid (Below w.heap.size w w2 ∧ Blk w2 w.heap.size 30 #[.int .i64 e.op, .int .i64 e.n, .int .i64 e.m, .int .i64 e.kind, .int .i64 e.lit.k, .int .i64 e.lit.n, .string e.lit.s, .slice (some ⟨b, o, none⟩) e.args.length c, .slice R e.rels.length d]) := Lib.hid ⟨thn HC.out.1 hb2, HC.out.2.below hb2 HC.out.2.lt⟩
          clear hb2 HK x0 x1 x2 x3 x4 x5 x6 x7 x8
          go_wp2_with fail
          first | exact ⟨⟨j + 1, by omega, by go_num, by rw [HAd.out]; first | rfl | (simp only [Value.int.injEq, true_and]; omega) | (congr 1; omega), HN⟩, by simp [intOf]; omega⟩ | (go_roundw; case rel => exact ⟨j + 1, by omega, by go_num, by rw [HAd.out]; first | rfl | (simp only [Value.int.injEq, true_and]; omega) | (congr 1; omega), HN⟩; case measure => simp [intOf]; omega)
        · have hlf : decide ((j : Int) < (e.args.length : Int)) = false := decide_eq_false (by omega)
          have HD : Hid (nodesE (mapE (rpF bys) e) = 1 + nodesL ((e.args.take j).map (mapE (rpF bys)))) := Lib.hid (by rw [HF.out, List.take_of_length_le (by omega)])
          generalize nodesL ((e.args.take j).map (mapE (rpF bys))) = p at *
          go_wp2_with fail
          go_ret
          exact ⟨by rw [HD.out]; rfl, HC.out.1⟩
end Go.Proofs.YtdiehgfldndgbaaGreatDoor
