/-
  THE LAW ValueMorgan: it returns true, whatever came in.
-/
import Derived.Test.YtmbakenfbdbapaaDoorUni
namespace Go.Proofs.YtmbakenfbdbapaaDoor
open Go.RowKit

/-- the truth that the law makes of a value -/
def tm (x : V) : V := if x.k = 0 then zV else ⟨2, b2i (x.n.tmod 2 != 0), ⟨#[]⟩⟩
theorem tm_ok (x : V) : (tm x).ok = true ∧ (tm x).tr = true := by
  unfold tm
  split
  · exact ⟨by decide, by decide⟩
  · cases (x.n.tmod 2 != 0) <;> exact ⟨by decide, by decide⟩
theorem chkT_tm {l : List V} (h : l.length ≤ 20000) : chkT (l.map tm) = 0 := by
  have h1 : chk (l.map tm) = 0 := chk_good (by simpa using h) (by rw [List.all_map]; exact List.all_eq_true.2 fun x _ => (tm_ok x).1)
  exact chkT_good h1 (by rw [List.all_map]; exact List.all_eq_true.2 fun x _ => (tm_ok x).2)
/-- turned -/
def tn (x : V) : V := resN (tm x)
theorem tn_eq (x : V) : tn x = notV (tm x) := if_pos (by simpa using chkT_tm (l := [x]) (by simp))
theorem tn_ok (x : V) : (tn x).ok = true ∧ (tn x).tr = true := by
  rw [tn_eq]
  unfold tm notV
  by_cases h : x.k = 0
  · simp only [if_pos h]; exact ⟨by decide, by decide⟩
  · simp only [if_neg h]; cases (x.n.tmod 2 != 0) <;> exact ⟨by decide, by decide⟩
theorem chkT_tn {l : List V} (h : l.length ≤ 20000) : chkT (l.map tn) = 0 := by
  have h1 : chk (l.map tn) = 0 := chk_good (by simpa using h) (by rw [List.all_map]; exact List.all_eq_true.2 fun x _ => (tn_ok x).1)
  exact chkT_good h1 (by rw [List.all_map]; exact List.all_eq_true.2 fun x _ => (tn_ok x).2)

/-- a truth is turned: it is enough for one just if what it is turned into is enough for the other; it is null just if that is -/
theorem tn_isE (x : V) : (tn x).isE true = (tm x).isE false ∧ (tn x).isN = (tm x).isN := by
  rw [tn_eq]
  unfold tm notV
  by_cases h : x.k = 0
  · simp [h, zV, V.isE, V.isN, veq, b2i]
  · simp only [if_neg h]
    cases (x.n.tmod 2 != 0) <;> simp [V.isE, V.isN, veq, b2i]
theorem any_tn (l : List V) : (l.map tn).any (V.isE true) = (l.map tm).any (V.isE false) ∧ (l.map tn).any V.isN = (l.map tm).any V.isN := by
  simp only [List.any_map]
  have e1 : (V.isE true ∘ tn) = (V.isE false ∘ tm) := funext fun x => (tn_isE x).1
  have e2 : (V.isN ∘ tn) = (V.isN ∘ tm) := funext fun x => (tn_isE x).2
  rw [e1, e2]; exact ⟨rfl, rfl⟩
/-- NOT of AND is OR of what is turned -/
theorem morgan (l : List V) : notV (joinV false (l.map tm)) = joinV true (l.map tn) := by
  unfold joinV
  rw [(any_tn l).1, (any_tn l).2]
  cases (l.map tm).any (V.isE false) <;> cases (l.map tm).any V.isN <;> simp [notV, b2i]
theorem joinV_chk (x : Bool) (l : List V) : chkT [joinV x l] = 0 := by
  unfold joinV
  cases l.any (V.isE x) <;> cases l.any V.isN <;> cases x <;> decide
/-- And and Or do not hang on order and number -/
theorem joinV_twice (x : Bool) (l : List V) (n : Nat) : joinV x (l.drop n ++ l) = joinV x l := by
  have h : ∀ p : V → Bool, (l.drop n ++ l).any p = l.any p := fun p => by
    rw [List.any_append]
    cases hl : l.any p with
    | true => simp
    | false =>
      rw [List.any_eq_false] at hl
      have : (l.drop n).any p = false := List.any_eq_false.2 fun x hx => hl x (List.mem_of_mem_drop hx)
      rw [this]; rfl
  unfold joinV
  rw [h, h]

def tms (k : Nat) (l : List V) : List V := (l.take k).map tm
def tns (k : Nat) (l : List V) : List V := (l.take k).map tn
theorem tms_succ {l : List V} {k : Nat} (h : k < l.length) : tms (k + 1) l = tms k l ++ [tm l[k]] := by
  unfold tms; rw [List.take_succ_eq_append_getElem h, List.map_append]; rfl
theorem tns_succ {l : List V} {k : Nat} (h : k < l.length) : tns (k + 1) l = tns k l ++ [tn l[k]] := by
  unfold tns; rw [List.take_succ_eq_append_getElem h, List.map_append]; rfl

theorem tm_size (x : V) : (tm x).s.size ≤ maxLen := by unfold tm; split <;> exact Nat.zero_le _
theorem tms_fit (l : List V) : VFit (l.map tm) := fun v hv => by
  obtain ⟨x, _, rfl⟩ := List.mem_map.1 hv
  exact tm_size x
theorem tn_size (x : V) : (tn x).s.size ≤ maxLen := by
  rw [tn_eq]; unfold notV
  split
  · exact tm_size x
  · exact Nat.zero_le _
theorem tns_fit (l : List V) : VFit (l.map tn) := fun v hv => by
  obtain ⟨x, _, rfl⟩ := List.mem_map.1 hv
  exact tn_size x
theorem Not_tm (x : V) (w : World) :
    Calls Tryd.prog 21 #[.agg #[.int .i64 (tm x).k, .int .i64 (tm x).n, .string (tm x).s]] w fun e w' => e = .returned (.tuple #[.agg #[.int .i64 (tn x).k, .int .i64 (tn x).n, .string (tn x).s], .int .i64 0]) ∧ Below w.heap.size w w' := by
  have h : chkT [(⟨(tm x).k, (tm x).n, (tm x).s⟩ : V)] = 0 := chkT_tm (l := [x]) (by simp)
  have := Not_any (tm x).k (tm x).n (tm x).s w (tm_size x)
  rw [h] at this
  exact this
theorem Not_join (l : List V) (w : World) :
    Calls Tryd.prog 21 #[.agg #[.int .i64 (joinV false (l.map tm)).k, .int .i64 (joinV false (l.map tm)).n, .string (joinV false (l.map tm)).s]] w fun e w' => e = .returned (.tuple #[.agg #[.int .i64 (joinV true (l.map tn)).k, .int .i64 (joinV true (l.map tn)).n, .string (joinV true (l.map tn)).s], .int .i64 0]) ∧ Below w.heap.size w w' := by
  rw [← morgan l]
  have h0 := joinV_chk false (l.map tm)
  have hs : (joinV false (l.map tm)).s.size ≤ maxLen := by unfold joinV; split <;> (try split) <;> exact Nat.zero_le _
  generalize joinV false (l.map tm) = a at *
  have h : chkT [(⟨a.k, a.n, a.s⟩ : V)] = 0 := h0
  have e : resN ⟨a.k, a.n, a.s⟩ = notV a := if_pos h
  have := Not_any a.k a.n a.s w hs
  rw [h, e] at this
  exact this

theorem C3.blk {w : World} {g : Nat} {T : TypeId} {a b : Int} {s : ByteArray} (h : Blk w g T #[.int .i64 a, .int .i64 b, .string s]) : C3 w g a b s := ⟨h.lt, h.cell 0, h.cell 1, h.cell 2⟩

theorem And_at (A : Option Addr) (c n : Nat) (l : List V) (w : World) (hr : VReads w w.heap.size A l) (hf : VFit l) (hn : l.length ≤ maxLen) (h0 : chkT l = 0) (e : n = l.length) :
    Calls Tryd.prog 19 #[.slice A n c] w fun e w' => e = .returned (.tuple #[.agg #[.int .i64 (joinV false l).k, .int .i64 (joinV false l).n, .string (joinV false l).s], .int .i64 0]) ∧ Below w.heap.size w w' := by
  subst e; exact And_ok A c l w hr hf hn h0
theorem Or_at (A : Option Addr) (c n : Nat) (l : List V) (w : World) (hr : VReads w w.heap.size A l) (hf : VFit l) (hn : l.length ≤ maxLen) (h0 : chkT l = 0) (e : n = l.length) :
    Calls Tryd.prog 20 #[.slice A n c] w fun e w' => e = .returned (.tuple #[.agg #[.int .i64 (joinV true l).k, .int .i64 (joinV true l).n, .string (joinV true l).s], .int .i64 0]) ∧ Below w.heap.size w w' := by
  subst e; exact Or_ok A c l w hr hf hn h0

theorem vcells_drop {l : List V} {n : Nat} (h : n ≤ l.length) : vcells (l.drop n) = (vcells l).drop (n * 3) := by
  have e : vcells l = vcells (l.take n) ++ vcells (l.drop n) := by rw [← vcells_append, List.take_append_drop]
  have hl : (vcells (l.take n)).length = n * 3 := by rw [vcells_len, List.length_take, Nat.min_eq_left h]
  rw [e, ← hl, List.drop_left]
/-- the values once more, from the n-th, and then all -/
def oth (n : Nat) (l : List V) : List V := (l.drop n ++ l).map tm
theorem oth_eq (n : Nat) (l : List V) : oth n l = (l.map tm).drop n ++ l.map tm := by unfold oth; rw [List.map_append, List.map_drop]
theorem oth_cells {n : Nat} {l : List V} (h : n ≤ l.length) : vcells (oth n l) = (vcells (l.map tm)).drop (n * 3) ++ vcells (l.map tm) := by
  rw [oth_eq, vcells_append, vcells_drop (by simpa using h)]
theorem oth_len (n : Nat) (l : List V) : (oth n l).length = l.length - n + l.length := by unfold oth; simp
theorem oth_join (x : Bool) (n : Nat) (l : List V) : joinV x (oth n l) = joinV x (l.map tm) := by rw [oth_eq]; exact joinV_twice x _ n

/-- two rows of the call's own, in two blocks: one is appended to, the other stands -/
theorem two_rows {base : Nat} {T : TypeId} {W w4 : World} {v5 v6 v5' : Value} {m : Nat} {ys : List Value} (o6 : W.ownsRow base T 3 v6 m ys) (ap : ∀ g, v5.ownBlock = some g → v6.ownBlock ≠ some g) (hg : W.grownBy w4 v5.ownBlock)
    {s : Nat} (hb : v5'.ownBlock = v5.ownBlock ∨ v5'.ownBlock = some s) (hs : s = W.heap.size) : w4.ownsRow base T 3 v6 m ys ∧ ∀ g, v5'.ownBlock = some g → v6.ownBlock ≠ some g := by
  refine ⟨o6.kept hg ?_, fun g h e => ?_⟩
  · cases h : v6.ownBlock with
    | none => exact .inl rfl
    | some g => exact .inr fun e => ap g e.symm h
  · subst hs
    rcases hb with hb | hb
    · exact ap g (by rw [← hb]; exact h) e
    · rw [hb] at h
      have := (o6.lt g e).2
      injection h with h
      omega

/-- what holds at the loop's head -/
structure MInv (l : List V) (k : Nat) (v5 v6 : Value) (w wr : World) : Prop where
  o5 : wr.ownsRow w.heap.size 24 3 v5 (tms k l).length (vcells (tms k l))
  o6 : wr.ownsRow w.heap.size 24 3 v6 (tns k l).length (vcells (tns k l))
  ap : ∀ g, v5.ownBlock = some g → v6.ownBlock ≠ some g
  bl : Below w.heap.size w wr

set_option maxHeartbeats 1000000 in
set_option maxRecDepth 100000 in
theorem morgan_law (A : Option Addr) (c : Nat) (l : List V) (f : Int) (w : World) (hG : G w) (hr : VReads w w.heap.size A l) (hn : l.length ≤ maxLen) (hf0 : 0 ≤ f) (hf1 : f ≤ 255) :
    Calls Tryd.prog 7 #[.slice A l.length c, .int .u8 f] w fun e w' => e = .returned (.bool true) ∧ Below w.heap.size w w' := by
  have HG := Lib.hid hG
  clear hG
  have hn := Nat.le_trans hn (Nat.le_refl _)
  unfold maxLen at hn
  obtain ⟨i0, hi, hz0, hz1, hz2⟩ := info_parts infoV
  go_enter Tryd.func7, Tryd.ntmps7
  go_wp2_with fail
  go_loopw [5, 6, 7] (fun v5 v6 i wr => ∃ k : Nat, k ≤ l.length ∧ k ≤ 12 ∧ i = .int .i64 k ∧ Hid (MInv l k v5 v6 w wr)) (fun _ _ i _ => l.length - (intOf i).toNat)
  case atStart => exact ⟨0, Nat.zero_le _, Nat.zero_le _, rfl, ⟨rfl, .inl ⟨rfl, rfl⟩⟩, ⟨rfl, .inl ⟨rfl, rfl⟩⟩, (fun g hg => by simp [Value.ownBlock] at hg), Below.refl _ _⟩
  case round =>
    obtain ⟨k, hk, hkm, rfl, HI⟩ := hrel
    go_upto_region 3 with fail
    go_cut [32] from 25 to 64 (fun s wx => s = .bool (decide (k < l.length ∧ k < 12)) ∧ wx = wr)
    case first =>
      by_cases hlt : k < l.length
      · by_cases hlm : k < 12
        · have HT : Hid (decide (k < l.length ∧ k < 12) = true) := by show _ = _; simp [hlt, hlm]
          go_wp2_with fail
          go_meet
          case rel => exact ⟨by rw [HT.out]; try (congr 1; simp; omega), rfl⟩
        · have HT : Hid (decide (k < l.length ∧ k < 12) = false) := by show _ = _; simp [hlm]
          go_wp2_with fail
          go_meet
          case rel => exact ⟨by rw [HT.out]; try (congr 1; simp; omega), rfl⟩
      · have HT : Hid (decide (k < l.length ∧ k < 12) = false) := by show _ = _; simp [hlt]
        go_wp2_with fail
        go_meet
        case rel => exact ⟨by rw [HT.out], rfl⟩
    case rest =>
      obtain ⟨rfl, hw⟩ := hcut
      obtain rfl := hw.symm
      by_cases hc : k < l.length ∧ k < 12
      · rw [decide_eq_true hc]
        obtain ⟨hlt, hlm⟩ := hc
        have HB := Lib.hid HI.out.bl
        go_wp2_with fail
        refine (rNull_exact _).mono ?_
        rintro e w1 ⟨rfl, hw1⟩
        have W1 : Hid (Below wr.heap.size wr w1) := by rw [hw1]; exact al (Below.refl _ _) _
        clear hw1
        have hr1 := hr.below (thn HB.out W1.out) (thn HB.out W1.out).size
        obtain ⟨b, o, rfl, hblk, c0, c1, c2⟩ := hr1.at_ hlt
        have R0 := Blk.new' (w := w1) (g := w1.heap.size) (t := 24) (cs := #[.int .i64 0, .int .i64 0, .string ⟨#[]⟩]) rfl
        have hlti : (k : Int) < (l.length : Int) := by omega
        have hk0 : (0 : Int) ≤ (k : Int) := by omega
        go_upto_if 41 with fail
        go_cut [] from 25 to 64 (fun wx => C3 wx w1.heap.size (tm l[k]).k (tm l[k]).n (tm l[k]).s ∧ Hid (Below wr.heap.size wr wx))
        case first =>
          by_cases h0 : l[k].k = 0
          · have e0 : (l[k].k != 0) = false := by simp [h0]
            have HT : Hid (tm l[k] = zV) := if_pos h0
            clear h0
            go_wp2_with fail
            go_meet
            case rel => exact ⟨by rw [HT.out]; exact C3.blk R0, al W1.out _⟩
          · have e0 : (l[k].k != 0) = true := by simp [h0]
            have HT : Hid (tm l[k] = ⟨2, b2i (l[k].n.tmod 2 != 0), ⟨#[]⟩⟩) := if_neg h0
            clear h0
            go_wp2_with fail
            refine (rBool_any _ _).mono ?_
            rintro e w2 ⟨rfl, hb2⟩
            have R2 := R0.below hb2 (by simp)
            have W2 := Lib.hid (thn (al W1.out _) hb2)
            have hsz := W1.out.size
            obtain ⟨⟨k0, k1, k2⟩, f0, f1, f2⟩ := R2.three
            have R3 := R2.three_set (.int .i64 2) (.int .i64 (b2i (l[k].n.tmod 2 != 0))) (.string ⟨#[]⟩)
            clear hb2 R2
            go_wp2_with fail
            go_meet
            case rel => exact ⟨by rw [HT.out]; exact C3.blk R3, st3 W2.out hsz _ _ _⟩
        case rest =>
          obtain ⟨hC, HBx⟩ := hcut
          have HC := Lib.hid hC
          obtain ⟨p0, p1, p2, p3⟩ := hC
          go_wp2_with fail
          refine (Not_tm l[k] _).mono ?_
          rintro e w3 ⟨rfl, hb3⟩
          have W3 := Lib.hid (thn HBx.out hb3)
          have HO5 := Lib.hid (own_below HI.out.o5 W3.out)
          have HO6 := Lib.hid (own_below HI.out.o6 W3.out)
          have HB3 := Lib.hid (thn HB.out W3.out)
          obtain ⟨q0, q1, q2, q3⟩ := HC.out.thn hb3
          have hl5 : Hid ((tms k l).length = k) := by show _ = _; unfold tms; simp; omega
          have hl6 : Hid ((tns k l).length = k) := by show _ = _; unfold tns; simp; omega
          clear hb3 p0 p1 p2 p3 hr hr1 hblk c0 c1 c2 R0
          go_wp2_with (at_builtin; refine wpList_append_any _ rfl (.tmp 57) (.tmp 59) 25 rfl w.heap.size 24 i0 (.agg #[.int .i64 0, .int .i64 0, .string ⟨#[]⟩]) 3 32 Tryd.underlying25 hi hz0 hz1 hz2 rfl (by decide) _ _ _ rfl ((HO5.out.alloc _).alloc _) (w3.heap.size + 1 + 1) _ 1 1 (vcells [tm l[k]]) rfl ?c0 ?c1 ?c2 ?c3 ?c4 ?_)
          case c0 => exact (VReads.one (Blk.new' (g := w3.heap.size + 1) (by simp)) (Nat.lt_succ_self _)).reads
          case c1 => exact vcells_one _
          case c2 => have := hl5.out; unfold maxLen; omega
          case c3 => have := hl5.out; omega
          case c4 => have := HB3.out.size; simp <;> omega
          intro v5' w4 hown4 hgrow4 hblk4
          have HO54 : Hid (w4.ownsRow w.heap.size 24 3 v5' (tms (k + 1) l).length (vcells (tms (k + 1) l))) := by
            rw [tms_succ hlt, vcells_append, List.length_append]
            exact hown4
          have HO64 := Lib.hid (two_rows ((HO6.out.alloc _).alloc _) HI.out.ap hgrow4 hblk4 (by simp))
          have HB4 : Hid (Below w.heap.size w w4) := ((al (al HB3.out _) _)).grown hgrow4 (by have := HB3.out.size; simp <;> omega) (own_base HO5.out)
          have HQ4 : Hid (C3 w4 w3.heap.size (tn l[k]).k (tn l[k]).n (tn l[k]).s) := C3.blk (((Blk.new w3 24 _).alloc _).grown hgrow4 fun e => by have := (HO5.out.lt _ e.symm).2; omega)
          obtain ⟨r0, r1, r2, r3⟩ := HQ4.out
          clear hown4 hgrow4 hblk4 q0 q1 q2 q3
          go_wp2_with (at_builtin; refine wpList_append_any _ rfl (.tmp 61) (.tmp 63) 25 rfl w.heap.size 24 i0 (.agg #[.int .i64 0, .int .i64 0, .string ⟨#[]⟩]) 3 32 Tryd.underlying25 hi hz0 hz1 hz2 rfl (by decide) _ _ _ rfl (HO64.out.1.alloc _) (w4.heap.size + 1) _ 1 1 (vcells [tn l[k]]) rfl ?d0 ?d1 ?d2 ?d3 ?d4 ?_)
          case d0 => exact (VReads.one (Blk.new' (g := w4.heap.size) rfl) (Nat.lt_succ_self _)).reads
          case d1 => exact vcells_one _
          case d2 => have := hl6.out; unfold maxLen; omega
          case d3 => have := hl6.out; omega
          case d4 => have := HB4.out.size; simp <;> omega
          intro v6' w5 hown5 hgrow5 hblk5
          have HO65 : Hid (w5.ownsRow w.heap.size 24 3 v6' (tns (k + 1) l).length (vcells (tns (k + 1) l))) := by
            rw [tns_succ hlt, vcells_append, List.length_append]
            exact hown5
          have HO55 := Lib.hid (two_rows (HO54.out.alloc _) (fun g h e => HO64.out.2 g e h) hgrow5 hblk5 (by simp))
          have HB5 : Hid (Below w.heap.size w w5) := (al HB4.out _).grown hgrow5 (by have := HB4.out.size; simp <;> omega) (own_base HO64.out.1)
          clear hown5 hgrow5 hblk5 r0 r1 r2 r3
          go_wp2_with fail
          go_roundw
          case rel =>
            exact ⟨k + 1, by omega, by omega, by go_num, HO55.out.1, HO65.out, (fun g h e => HO55.out.2 g e h), HB5.out⟩
          case measure => simp [intOf]; omega
      · rw [decide_eq_false hc]
        have HW := Lib.hid HI.out.bl
        obtain ⟨A5, c5, rfl, hc5, hm5, hr5, hg5⟩ := own_reads HI.out.o5
        obtain ⟨A6, c6, rfl, hc6, hm6, hr6, hg6⟩ := own_reads HI.out.o6
        have e5 : tms k l = (l.take k).map tm := rfl
        have e6 : tns k l = (l.take k).map tn := rfl
        have hk0 : (l.take k).length ≤ 12 := by simp; omega
        have hlen : (tms k l).length = (tns k l).length := by simp [tms, tns]
        rw [← hlen] at hc6
        have hc5' : (l.take k).length ≤ c5 := by simpa [tms] using hc5
        have HC5 := Lib.hid hc5'
        clear HI hc5 hc6 hm5 hm6 hc5'
        rw [e5] at hr5 hg5
        rw [e6] at hr6 hg6
        rw [e5, e6]
        generalize l.take k = l0 at *
        clear hr hn hk hkm hc
        have HN0 := Lib.hid hk0
        have hm : (12 : Nat) ≤ maxLen := by simp [maxLen]
        go_wp2_with fail
        refine (And_at A5 c5 _ (l0.map tm) _ hr5 (tms_fit l0) (by simp; omega) (chkT_tm (by omega)) (by simp)).mono ?_
        rintro e w1 ⟨rfl, hb1⟩
        have W1 := Lib.hid (thn HW.out hb1)
        have R51 := Lib.hid (hr5.below hb1 hb1.size)
        have R61 := Lib.hid (hr6.below hb1 hb1.size)
        have P1 : Hid (C3 (w1.alloc (.cells #[.int .i64 (joinV false (l0.map tm)).k, .int .i64 (joinV false (l0.map tm)).n, .string (joinV false (l0.map tm)).s] 24)) w1.heap.size (joinV false (l0.map tm)).k (joinV false (l0.map tm)).n (joinV false (l0.map tm)).s) := C3.new
        clear hb1 hr5 hr6
        go_wp2_with fail
        refine (Or_at A6 c6 _ (l0.map tn) _ (R61.out.below (al (Below.refl _ _) _) (by simp)) (tns_fit l0) (by simp; omega) (chkT_tn (by omega)) (by simp)).mono ?_
        rintro e w2 ⟨rfl, hb2⟩
        have W2 := Lib.hid (thn (al W1.out _) hb2)
        have R52 := Lib.hid ((R51.out.below (al (Below.refl w1.heap.size w1) _) (by simp : w1.heap.size ≤ _)).below hb2 hb2.size)
        have P2 := Lib.hid (P1.out.thn hb2)
        have Q2 : Hid (C3 (w2.alloc (.cells #[.int .i64 (joinV true (l0.map tn)).k, .int .i64 (joinV true (l0.map tn)).n, .string (joinV true (l0.map tn)).s] 24)) w2.heap.size (joinV true (l0.map tn)).k (joinV true (l0.map tn)).n (joinV true (l0.map tn)).s) := C3.new
        clear hb2 R61 R51
        obtain ⟨p0, p1, p2, p3⟩ := P2.out
        go_wp2_with fail
        refine (Not_join l0 _).mono ?_
        rintro e w3 ⟨rfl, hb3⟩
        have W3 := Lib.hid (thn (al W2.out _) hb3)
        have R53 := Lib.hid ((R52.out.below (al (Below.refl w2.heap.size w2) _) (by simp : w2.heap.size ≤ _)).below hb3 hb3.size)
        have P3 := Lib.hid ((P2.out.al _).thn hb3)
        have Q3 := Lib.hid (Q2.out.thn hb3)
        clear hb3 p0 p1 p2 p3 R52
        obtain ⟨q0, q1, q2, q3⟩ := Q3.out
        have hs := veq_self (joinV true (l0.map tn)).k (joinV true (l0.map tn)).n (joinV true (l0.map tn)).s
        have hne := @neqV
        go_upto_if 95 with fail
        go_cut [17] (fun s wx => (∃ n : Nat, s = .int .i64 n ∧ n ≤ l0.length) ∧ Hid (Below w.heap.size w wx) ∧ Hid (C3 wx w1.heap.size (joinV false (l0.map tm)).k (joinV false (l0.map tm)).n (joinV false (l0.map tm)).s) ∧ Hid (VReads wx wx.heap.size A5 (l0.map tm)))
        case first =>
          by_cases hp : 0 < l0.length
          · have hpi : (0 : Int) < (l0.length : Int) := by omega
            go_wp2_with fail
            go_meet
            case rel =>
              have hm1 := Int.emod_nonneg f (by omega : (l0.length : Int) ≠ 0)
              have hm2 := Int.emod_lt_of_pos f hpi
              exact ⟨⟨(f % (l0.length : Int)).toNat, by rw [Int.toNat_of_nonneg hm1], by omega⟩, al W3.out _, P3.out.al _, R53.out.below (al (Below.refl _ _) _) (by simp)⟩
          · have hz : l0.length = 0 := by omega
            go_wp2_with fail
            go_meet
            case rel => exact ⟨⟨0, rfl, Nat.zero_le _⟩, al W3.out _, P3.out.al _, R53.out.below (al (Below.refl _ _) _) (by simp)⟩
        case rest =>
          obtain ⟨⟨n, rfl, hnl⟩, W4, P4, R4⟩ := hcut
          have HN := Lib.hid hnl
          have hni : (n : Int) ≤ (l0.length : Int) := by omega
          have hn0 : (0 : Int) ≤ (n : Int) := by omega
          have hcn := HC5.out
          have hcap : (n : Int) ≤ (c5 : Int) := by omega
          clear hs hne q0 q1 q2 q3 hcn
          have own0 := own_empty wc 24 3
          go_upto_region 23 with fail
          go_cut [18] (fun s wx => (∃ A8 c8, s = .slice A8 (oth n l0).length c8 ∧ Hid (VReads wx wx.heap.size A8 (oth n l0))) ∧ Hid (Below w.heap.size w wx) ∧ Hid (C3 wx w1.heap.size (joinV false (l0.map tm)).k (joinV false (l0.map tm)).n (joinV false (l0.map tm)).s) ∧ Hid (VReads wx wx.heap.size A5 (l0.map tm)))
          case first =>
            by_cases he : c5 = n
            · subst he
              have hrd := R4.out.reads.cut (k := c5) (cap := c5) (by simpa using hnl) (by simpa using HC5.out)
              rw [if_pos rfl, List.length_map] at hrd
              go_wp2_with (at_builtin; refine wpList_append_any _ rfl (.tmp 101) (.tmp 104) 25 rfl wc.heap.size 24 i0 (.agg #[.int .i64 0, .int .i64 0, .string ⟨#[]⟩]) 3 32 Tryd.underlying25 hi hz0 hz1 hz2 rfl (by decide) _ _ _ rfl own0 wc.heap.size _ _ _ ((vcells (l0.map tm)).drop (c5 * 3)) rfl ?e0 ?e1 ?e2 ?e3 ?e4 ?_)
              case e0 => exact hrd.alloc (Nat.le_refl _) _
              case e1 => exact fun u hu => vcells_one _ u (List.mem_of_mem_drop hu)
              case e2 => have := HN0.out; unfold maxLen; omega
              case e3 => have := HN0.out; omega
              case e4 => simp <;> omega
              intro v7 w7 hown7 hgrow7 hblk7
              have s7 : Hid (Reads w7 wc.heap.size 3 A5 l0.length (vcells (l0.map tm))) := by
                have := (R4.out.reads.alloc (Nat.le_refl _) (.cells #[] 24)).grown hgrow7 (by simp) (own_base own0)
                rw [List.length_map] at this
                exact this
              have B7 : Hid (Below wc.heap.size wc w7) := (al (Below.refl _ _) _).grown hgrow7 (by simp <;> omega) (own_base own0)
              clear hgrow7 hblk7
              go_wp2_with (at_builtin; refine wpList_append_any _ rfl (.tmp 105) (.tmp 106) 25 rfl wc.heap.size 24 i0 (.agg #[.int .i64 0, .int .i64 0, .string ⟨#[]⟩]) 3 32 Tryd.underlying25 hi hz0 hz1 hz2 rfl (by decide) _ _ _ rfl hown7 wc.heap.size A5 l0.length c5 (vcells (l0.map tm)) rfl ?g0 ?g1 ?g2 ?g3 ?g4 ?_)
              case g0 => exact s7.out
              case g1 => exact vcells_one _
              case g2 => have := HN0.out; unfold maxLen; omega
              case g3 => have := HN0.out; omega
              case g4 => exact B7.out.size
              intro v8 w8 hown8 hgrow8 hblk8
              have B8 : Hid (Below wc.heap.size wc w8) := B7.out.grown hgrow8 B7.out.size (own_base hown7)
              have HO8 : Hid (w8.ownsRow wc.heap.size 24 3 v8 (oth c5 l0).length (vcells (oth c5 l0))) := by
                have h := hown8
                try simp only [Nat.zero_add, List.nil_append] at h
                rw [oth_cells hnl, oth_len]
                exact h
              obtain ⟨A8, c8, rfl, _, _, hr8, _⟩ := own_reads HO8.out
              have HR8 := Lib.hid hr8
              clear hown8 hgrow8 hblk8 hown7
              go_wp2_with fail
              go_meet
              case rel => exact ⟨⟨A8, c8, rfl, HR8.out⟩, thn W4.out B8.out, P4.out.thn B8.out, R4.out.below B8.out B8.out.size⟩
            ·
              have hrd := R4.out.reads.cut (k := n) (cap := c5) (by simpa using hnl) (by simpa using HC5.out)
              rw [if_neg he, List.length_map] at hrd
              go_wp2_with (at_builtin; refine wpList_append_any _ rfl (.tmp 101) (.tmp 104) 25 rfl wc.heap.size 24 i0 (.agg #[.int .i64 0, .int .i64 0, .string ⟨#[]⟩]) 3 32 Tryd.underlying25 hi hz0 hz1 hz2 rfl (by decide) _ _ _ rfl own0 wc.heap.size _ _ _ ((vcells (l0.map tm)).drop (n * 3)) rfl ?e0 ?e1 ?e2 ?e3 ?e4 ?_)
              case e0 => exact hrd.alloc (Nat.le_refl _) _
              case e1 => exact fun u hu => vcells_one _ u (List.mem_of_mem_drop hu)
              case e2 => have := HN0.out; unfold maxLen; omega
              case e3 => have := HN0.out; omega
              case e4 => simp <;> omega
              intro v7 w7 hown7 hgrow7 hblk7
              have s7 : Hid (Reads w7 wc.heap.size 3 A5 l0.length (vcells (l0.map tm))) := by
                have := (R4.out.reads.alloc (Nat.le_refl _) (.cells #[] 24)).grown hgrow7 (by simp) (own_base own0)
                rw [List.length_map] at this
                exact this
              have B7 : Hid (Below wc.heap.size wc w7) := (al (Below.refl _ _) _).grown hgrow7 (by simp <;> omega) (own_base own0)
              clear hgrow7 hblk7
              go_wp2_with (at_builtin; refine wpList_append_any _ rfl (.tmp 105) (.tmp 106) 25 rfl wc.heap.size 24 i0 (.agg #[.int .i64 0, .int .i64 0, .string ⟨#[]⟩]) 3 32 Tryd.underlying25 hi hz0 hz1 hz2 rfl (by decide) _ _ _ rfl hown7 wc.heap.size A5 l0.length c5 (vcells (l0.map tm)) rfl ?g0 ?g1 ?g2 ?g3 ?g4 ?_)
              case g0 => exact s7.out
              case g1 => exact vcells_one _
              case g2 => have := HN0.out; unfold maxLen; omega
              case g3 => have := HN0.out; omega
              case g4 => exact B7.out.size
              intro v8 w8 hown8 hgrow8 hblk8
              have B8 : Hid (Below wc.heap.size wc w8) := B7.out.grown hgrow8 B7.out.size (own_base hown7)
              have HO8 : Hid (w8.ownsRow wc.heap.size 24 3 v8 (oth n l0).length (vcells (oth n l0))) := by
                have h := hown8
                try simp only [Nat.zero_add, List.nil_append] at h
                rw [oth_cells hnl, oth_len]
                exact h
              obtain ⟨A8, c8, rfl, _, _, hr8, _⟩ := own_reads HO8.out
              have HR8 := Lib.hid hr8
              clear hown8 hgrow8 hblk8 hown7
              go_wp2_with fail
              go_meet
              case rel => exact ⟨⟨A8, c8, rfl, HR8.out⟩, thn W4.out B8.out, P4.out.thn B8.out, R4.out.below B8.out B8.out.size⟩
          case rest =>
            clear own0
            obtain ⟨⟨A8, c8, rfl, R8⟩, W5, P5, R5⟩ := hcut
            have hol : Hid ((oth n l0).length ≤ 24) := by show _ ≤ _; rw [oth_len]; have := HN0.out; omega
            have hoc : Hid (chkT (oth n l0) = 0) := chkT_tm (by have := hol.out; unfold oth at this; rw [List.length_map] at this; omega)
            have hof : Hid (VFit (oth n l0)) := tms_fit _
            have hoj := oth_join false n l0
            have hok := oth_join true n l0
            have OJ := Lib.hid hoj
            have OK := Lib.hid hok
            clear hoj hok
            generalize oth n l0 = o at *
            go_wp2_with fail
            refine (And_at A8 c8 _ o _ R8.out hof.out (by have := hol.out; unfold maxLen; omega) hoc.out rfl).mono ?_
            rw [OJ.out]
            rintro e w9 ⟨rfl, hb9⟩
            have W9 := Lib.hid (thn W5.out hb9)
            have P9 := Lib.hid (P5.out.thn hb9)
            have R59 := Lib.hid (R5.out.below hb9 hb9.size)
            have R89 := Lib.hid (R8.out.below hb9 hb9.size)
            have S9 : Hid (C3 (w9.alloc (.cells #[.int .i64 (joinV false (l0.map tm)).k, .int .i64 (joinV false (l0.map tm)).n, .string (joinV false (l0.map tm)).s] 24)) w9.heap.size (joinV false (l0.map tm)).k (joinV false (l0.map tm)).n (joinV false (l0.map tm)).s) := C3.new
            clear hb9 P5 R5 R8
            go_wp2_with fail
            refine (Or_at A5 c5 _ (l0.map tm) _ (R59.out.below (al (Below.refl _ _) _) (by simp)) (tms_fit l0) (by have := HN0.out; simp [maxLen]; omega) (chkT_tm (by have := HN0.out; omega)) (by simp)).mono ?_
            rintro e w10 ⟨rfl, hb10⟩
            have W10 := Lib.hid (thn (al W9.out _) hb10)
            have P10 := Lib.hid ((P9.out.al _).thn hb10)
            have S10 := Lib.hid (S9.out.thn hb10)
            have R810 := Lib.hid ((R89.out.below (al (Below.refl w9.heap.size w9) _) (by simp : w9.heap.size ≤ _)).below hb10 hb10.size)
            have T10 : Hid (C3 (w10.alloc (.cells #[.int .i64 (joinV true (l0.map tm)).k, .int .i64 (joinV true (l0.map tm)).n, .string (joinV true (l0.map tm)).s] 24)) w10.heap.size (joinV true (l0.map tm)).k (joinV true (l0.map tm)).n (joinV true (l0.map tm)).s) := C3.new
            clear hb10 P9 S9 R59 R89
            go_wp2_with fail
            refine (Or_at A8 c8 _ o _ (R810.out.below (al (Below.refl _ _) _) (by simp)) hof.out (by have := hol.out; unfold maxLen; omega) hoc.out rfl).mono ?_
            rw [OK.out]
            rintro e w11 ⟨rfl, hb11⟩
            have W11 := Lib.hid (thn (al W10.out _) hb11)
            obtain ⟨p0, p1, p2, p3⟩ := (P10.out.al _).thn hb11
            obtain ⟨s0, s1, s2, s3⟩ := (S10.out.al _).thn hb11
            obtain ⟨t0, t1, t2, t3⟩ := T10.out.thn hb11
            clear hb11 P10 S10 T10 R810
            have heq := @eqV
            have hJ := veq_self (joinV false (l0.map tm)).k (joinV false (l0.map tm)).n (joinV false (l0.map tm)).s
            have hK := veq_self (joinV true (l0.map tm)).k (joinV true (l0.map tm)).n (joinV true (l0.map tm)).s
            go_wp2_with fail
            refine (awake_any _ (HG.out.thn (al W11.out _))).mono ?_
            rintro e w12 ⟨rfl, hb12⟩
            go_wp2_with fail
            go_ret
            exact ⟨rfl, thn (al W11.out _) hb12⟩
end Go.Proofs.YtmbakenfbdbapaaDoor
