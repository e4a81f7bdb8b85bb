/-
  CONTRACT of the reference of rows: Ordered (by merging).
-/
import Derived.Test.YtapnnheggjahlaaGreatDoorRfB
import Derived.Test.YtapnnheggjahlaaGreatDoorAwk
namespace Go.Proofs.YtapnnheggjahlaaGreatDoor
open Go.RowKit

def ROk (ks : List (Nat × Bool)) (r : List V) : Prop := r.length ≤ 1000000 ∧ VFit r ∧ ∀ k ∈ ks, k.1 < r.length
/-- values that are slices of rows -/
def RowsR (w : World) (B : Nat) (vs : List Value) (S : List (List V)) : Prop := vs.length = S.length ∧ ∀ (i : Nat) (r : List V), S[i]? = some r → ∃ Ar c, vs[i]? = some (.slice Ar r.length c) ∧ Plain Ar ∧ VReads w B Ar r
theorem RowsR.below {w w' : World} {B : Nat} {vs : List Value} {S : List (List V)} (h : RowsR w B vs S) (hb : Below B w w') : RowsR w' B vs S :=
  ⟨h.1, fun i r hr => by
    obtain ⟨Ar, c, h1, h2, h3⟩ := h.2 i r hr
    exact ⟨Ar, c, h1, h2, h3.below hb (Nat.le_refl _)⟩⟩
theorem RowsR.snoc {w : World} {B : Nat} {vs : List Value} {S : List (List V)} {Ar : Option Addr} {c : Nat} {r : List V} (h : RowsR w B vs S) (hp : Plain Ar) (hv : VReads w B Ar r) : RowsR w B (vs ++ [.slice Ar r.length c]) (S ++ [r]) := by
  refine ⟨by simp [h.1], fun i x hx => ?_⟩
  rcases Nat.lt_trichotomy i S.length with hi | hi | hi
  · rw [List.getElem?_append_left hi] at hx
    rw [List.getElem?_append_left (by rw [h.1]; exact hi)]
    exact h.2 i x hx
  · subst hi
    simp only [List.getElem?_concat_length, Option.some.injEq] at hx
    subst hx
    exact ⟨Ar, c, by rw [← h.1]; simp, hp, hv⟩
  · rw [List.getElem?_eq_none (by simp; omega)] at hx
    cases hx
theorem own_lreads {w : World} {base B : Nat} {v : Value} {vs : List Value} {S : List (List V)} (ho : w.ownsRow base 34 1 v S.length vs) (hR : RowsR w B vs S) (hB : B ≤ w.heap.size) : ∃ A c, v = .slice A S.length c ∧ LReads w w.heap.size A S := by
  obtain ⟨A, c, rfl⟩ := own_slice ho
  refine ⟨A, c, rfl, fun h0 => ?_⟩
  obtain ⟨ad, hA, hlt, hc⟩ := (Reads.of_own ho).2 h0
  subst hA
  have hp : ∃ b, ad = ⟨b, 0, none⟩ := by
    rcases ho.2 with ⟨h1, _⟩ | ⟨g, cap, cur, h1, _⟩
    · cases h1
    · cases h1; exact ⟨_, rfl⟩
  obtain ⟨b, rfl⟩ := hp
  refine ⟨b, 0, rfl, hlt, fun i r hi => ?_⟩
  obtain ⟨Ar, cr, e, hp, hv⟩ := hR.2 i r hi
  have := hc i _ e
  rw [addN] at this
  exact ⟨Ar, cr, this, hp, hv.below (Below.refl _ _) hB⟩
theorem LReads.take {w : World} {B b o : Nat} {L : List (List V)} (h : LReads w B (some ⟨b, o, none⟩) L) (k : Nat) : LReads w B (some ⟨b, o, none⟩) (L.take k) := fun h0 => by
  obtain ⟨b', o', ha, hb, hc⟩ := h (by simp at h0; omega)
  refine ⟨b', o', ha, hb, fun i v hi => hc i v ?_⟩
  rw [List.getElem?_take] at hi
  split at hi
  · exact hi
  · cases hi
theorem LReads.drop {w : World} {B b o : Nat} {L : List (List V)} (h : LReads w B (some ⟨b, o, none⟩) L) (k : Nat) : LReads w B (some ⟨b, o + k, none⟩) (L.drop k) := fun h0 => by
  obtain ⟨b', o', ha, hb, hc⟩ := h (by simp at h0; omega)
  injection ha with ha
  injection ha with h1 h2
  subst h1 h2
  refine ⟨b, o + k, rfl, hb, fun i v hi => ?_⟩
  rw [List.getElem?_drop] at hi
  have := hc (k + i) v hi
  rw [show o + (k + i) = o + k + i by omega] at this
  exact this
theorem LReads.drewS {w : World} {A : Option Addr} {L : List (List V)} (h : LReads w w.heap.size A L) : LReads w.drew w.drew.heap.size A L := h
theorem KReads.drewS {w : World} {A : Option Addr} {ks : List (Int × Bool)} (h : KReads w w.heap.size A ks) : KReads w.drew w.drew.heap.size A ks := h
theorem srtC_halves {c : List V → List V → Int} (h : WO c) (he : ∀ x y, c x y = 0 → x = y) (L : List (List V)) (k : Nat) : List.merge (srtC c (L.take k)) (srtC c (L.drop k)) (leC c) = srtC c L := by
  rw [srtC_merge h he, List.take_append_drop]
theorem mergeC_left {c : List V → List V → Int} {L R : List (List V)} {p : Nat} (hp : p < L.length) (h : R = [] ∨ ∃ y r, R = y :: r ∧ leC c L[p] y = true) : List.merge (L.drop p) R (leC c) = L[p] :: List.merge (L.drop (p + 1)) R (leC c) := by
  rw [List.drop_eq_getElem_cons hp]
  rcases h with rfl | ⟨y, r, rfl, hl⟩
  · simp
  · rw [List.cons_merge_cons, if_pos hl]
theorem mergeC_right {c : List V → List V → Int} {L R : List (List V)} {q : Nat} (hq : q < R.length) (h : L = [] ∨ ∃ x r, L = x :: r ∧ leC c x R[q] = false) : List.merge L (R.drop q) (leC c) = R[q] :: List.merge L (R.drop (q + 1)) (leC c) := by
  rw [List.drop_eq_getElem_cons hq]
  rcases h with rfl | ⟨x, r, rfl, hl⟩
  · simp
  · rw [List.cons_merge_cons, if_neg (by rw [hl]; decide)]
theorem srtC_append_len (c : List V → List V → Int) (L : List (List V)) (h : Nat) : (srtC c (L.take h)).length + (srtC c (L.drop h)).length = L.length := by
  rw [srtC_len, srtC_len, List.length_take, List.length_drop]; omega

set_option maxHeartbeats 4000000 in
set_option maxRecDepth 100000 in
theorem ROrdered_any (ks : List (Nat × Bool)) (Ak : Option Addr) (ck : Nat) (hks : ks.length ≤ 1000000) (m : Nat) : ∀ (A : Option Addr) (c : Nat) (l : List (List V)) (w : World), l.length < m → LReads w w.heap.size A l → KReads w w.heap.size Ak (kI ks) → (∀ r ∈ l, ROk ks r) → l.length ≤ c → l.length ≤ 1000000 →
    Calls Tryz.prog 43 #[.slice A l.length c, .slice Ak ks.length ck] w fun e w' => ∃ A' c', e = .returned (.slice A' l.length c') ∧ LReads w' w'.heap.size A' (srtC (cmpKR ks) l) ∧ Below w.heap.size w w' := by
  obtain ⟨i0, hi, hz0, hz1, hz2⟩ := info_parts infoR
  induction m with
  | zero => intro A c l w h; omega
  | succ m ih =>
    intro A c l w hm hr hk hf hc hn
    have HN := Lib.hid hn
    clear hn
    by_cases h2 : l.length < 2
    · have hlt : (l.length : Int) < 2 := by omega
      have HE := Lib.hid (srtC_short (cmpKR_WO ks) (fun x y h => cmpKR_eq x y h) h2)
      clear h2
      have HC := Lib.hid (RCopy_any A c l w hr HN.out fun r h => (hf r h).1)
      clear hr hk hf ih
      go_enter Tryz.func43, Tryz.ntmps43
      go_wp2_with fail
      refine HC.out.mono ?_
      rintro e w1 ⟨v, vs, rfl, ho, hrs, _, hb⟩
      obtain ⟨A1, c1, rfl, hl⟩ := OutR.lreads ⟨vs, ho, hrs⟩
      have W1 := Lib.hid (And.intro hl hb)
      clear ho hrs hl hb
      go_wp2_with fail
      go_ret
      exact ⟨A1, c1, rfl, by rw [HE.out]; exact W1.out.1, W1.out.2⟩
    · have hlt : ¬ (l.length : Int) < 2 := by omega
      obtain ⟨b, o, rfl, hblk, hcc⟩ := hr (by omega)
      clear hcc
      obtain ⟨h, hd⟩ : ∃ h, h = l.length / 2 := ⟨_, rfl⟩
      have hq : (l.length : Int) / 2 = (h : Int) := by omega
      have hh : h ≤ l.length := by omega
      have hhi : (h : Int) ≤ (l.length : Int) := by omega
      have hci : (l.length : Int) ≤ (c : Int) := by omega
      have hhc : (h : Int) ≤ (c : Int) := by omega
      have hhn : h ≤ c := by omega
      have h0i : (0 : Int) ≤ (h : Int) := by omega
      have hw : IntKind.i64.wrap (h : Int) = (h : Int) := by
        rw [IntKind.wrap_i64]
        have := HN.out
        omega
      have hne : ¬ c = h := by omega
      have hl1 : (l.take h).length = h := by rw [List.length_take]; omega
      have hl2 : (l.drop h).length = l.length - h := List.length_drop
      have h1 := fun w' (hv : LReads w' w'.heap.size (some ⟨b, o, none⟩) (l.take h)) (hk' : KReads w' w'.heap.size Ak (kI ks)) => ih (some ⟨b, o, none⟩) c (l.take h) w' (by omega) hv hk' (fun r hr => hf r (List.mem_of_mem_take hr)) (by omega) (by have := HN.out; omega)
      have h2' := fun w' (hv : LReads w' w'.heap.size (some ⟨b, o + h, none⟩) (l.drop h)) (hk' : KReads w' w'.heap.size Ak (kI ks)) => ih (some ⟨b, o + h, none⟩) (c - h) (l.drop h) w' (by omega) hv hk' (fun r hr => hf r (List.mem_of_mem_drop hr)) (by omega) (by have := HN.out; omega)
      rw [hl1] at h1
      rw [hl2] at h2'
      have H1 := Lib.hid h1
      have H2 := Lib.hid h2'
      have R1 := Lib.hid (hr.take h)
      have R2 := Lib.hid (hr.drop h)
      have HK := Lib.hid hk
      have HF1 : Hid (∀ r ∈ srtC (cmpKR ks) (l.take h), ROk ks r) := fun r hr => hf r (List.mem_of_mem_take (srtC_mem.1 hr))
      have HF2 : Hid (∀ r ∈ srtC (cmpKR ks) (l.drop h), ROk ks r) := fun r hr => hf r (List.mem_of_mem_drop (srtC_mem.1 hr))
      have HL := Lib.hid (srtC_append_len (cmpKR ks) l h)
      have HM := Lib.hid (srtC_halves (cmpKR_WO ks) (fun x y h => cmpKR_eq x y h) l h)
      have HL1 : Hid ((srtC (cmpKR ks) (l.take h)).length = h ∧ (srtC (cmpKR ks) (l.drop h)).length = l.length - h) := ⟨by rw [srtC_len, hl1], by rw [srtC_len, hl2]⟩
      have HL0 := Lib.hid (srtC_len (c := cmpKR ks) l)
      clear h1 h2' ih hr hf hl1 hl2 h2 hd hk
      go_enter Tryz.func43, Tryz.ntmps43
      go_upto_region 3 with fail
      go_cut [5, 6] from 15 to 28 (fun x y wx => ∃ (A1 : Option Addr) (c1 : Nat) (A2 : Option Addr) (c2 : Nat), x = .slice A1 (srtC (cmpKR ks) (l.take h)).length c1 ∧ y = .slice A2 (srtC (cmpKR ks) (l.drop h)).length c2 ∧ Hid (LReads wx wx.heap.size A1 (srtC (cmpKR ks) (l.take h))) ∧ Hid (LReads wx wx.heap.size A2 (srtC (cmpKR ks) (l.drop h))) ∧ Hid (Below w.heap.size w wx))
      case first =>
        go_region_with (first
            | (go_at_call_of 43 (Value.slice (some ⟨b, o, none⟩) h c); refine (H1.out _ ?_ ?_).mono ?_; (first | exact R1.out.drewS | exact R1.out.below B4 B4.size); (first | exact HK.out.drewS | exact HK.out.below B4 B4.size); rintro e w3 ⟨A3, c3, rfl, ho3, hb3⟩; first | (have B3 : Below w.heap.size w w3 := ⟨hb3.os, hb3.tape, hb3.output, hb3.size, hb3.block⟩) | (have B3 : Below w4.heap.size w4 w3 := ⟨hb3.os, hb3.tape, hb3.output, hb3.size, hb3.block⟩))
            | (go_at_call_of 43 (Value.slice (some ⟨b, o + h, none⟩) (l.length - h) (c - h)); refine (H2.out _ ?_ ?_).mono ?_; (first | exact R2.out.drewS | exact R2.out.below B3 B3.size); (first | exact HK.out.drewS | exact HK.out.below B3 B3.size); rintro e w4 ⟨A4, c4, rfl, ho4, hb4⟩; first | (have B4 : Below w.heap.size w w4 := ⟨hb4.os, hb4.tape, hb4.output, hb4.size, hb4.block⟩) | (have B4 : Below w3.heap.size w3 w4 := ⟨hb4.os, hb4.tape, hb4.output, hb4.size, hb4.block⟩)))
        all_goals go_wp2_with fail
        all_goals go_meet
        all_goals
          exact ⟨A3, c3, A4, c4, by rw [HL1.out.1], by rw [HL1.out.2], ho3.below B4 B4.size, ho4, thn B3 B4⟩
      case rest =>
        obtain ⟨A1, c1, A2, c2, rfl, rfl, HR1, HR2, HB0⟩ := hcut
        have HK2 := Lib.hid (HK.out.below HB0.out HB0.out.size)
        clear R1 R2 H1 H2 HK hq hhi hci hhc hhn h0i hw hne hlt hblk HL1
        generalize srtC (cmpKR ks) (l.take h) = L at *
        generalize srtC (cmpKR ks) (l.drop h) = R at *
        have hLl : L.length ≤ 1000000 := by have := HL.out; have := HN.out; omega
        have hRl : R.length ≤ 1000000 := by have := HL.out; have := HN.out; omega
        go_wp2_with fail
        go_loopw [7, 8, 9] (fun v i k wr => ∃ (p q : Nat), p ≤ L.length ∧ q ≤ R.length ∧ i = .int .i64 p ∧ k = .int .i64 q ∧ Hid (∃ (os : List (List V)) (vs : List Value), os.length = p + q ∧ wr.ownsRow wc.heap.size 34 1 v (p + q) vs ∧ RowsR wr wc.heap.size vs os ∧ os ++ List.merge (L.drop p) (R.drop q) (leC (cmpKR ks)) = srtC (cmpKR ks) l ∧ Below wc.heap.size wc wr)) (fun _ i k _ => (L.length - (intOf i).toNat) + (R.length - (intOf k).toNat))
        case atStart => exact ⟨0, 0, Nat.zero_le _, Nat.zero_le _, rfl, rfl, [], [], rfl, ⟨rfl, .inl ⟨rfl, rfl⟩⟩, ⟨rfl, fun i r h => by simp at h⟩, HM.out, Below.refl _ _⟩
        case round =>
          obtain ⟨p, q, hpl, hql, rfl, rfl, HI⟩ := hrel
          have hp0 : (0 : Int) ≤ (p : Int) := by omega
          have hq0 : (0 : Int) ≤ (q : Int) := by omega
          by_cases hp : p < L.length
          · have hpi : (p : Int) < (L.length : Int) := by omega
            by_cases hq : q < R.length
            · have hqi : (q : Int) < (R.length : Int) := by omega
              have eqq : ((q : Int) == (R.length : Int)) = false := beq_eq_false_iff_ne.2 (by omega)
              have HB : Hid (Below wc.heap.size wc wr) := HI.out.elim fun _ h => h.elim fun _ h => h.2.2.2.2
              obtain ⟨b1, o1, Ar1, cr1, rfl, hk1, hc1, hp1, hv1⟩ := HR1.out.at_ hp
              have la1 : ∀ x : Aft wr, x.w.cell? ⟨b1, o1 + p, none⟩ = some (.slice Ar1 L[p].length cr1) := fun x => (x.h.cell (p := ⟨b1, _, none⟩) (Nat.lt_of_lt_of_le hk1 HB.out.size)).trans ((HB.out.cell (p := ⟨b1, _, none⟩) hk1).trans hc1)
              have HV1 := Lib.hid (And.intro hp1 hv1)
              clear hc1 hp1 hv1 hk1
              obtain ⟨b2, o2, Ar2, cr2, rfl, hk2, hc2, hp2, hv2⟩ := HR2.out.at_ hq
              have la2 : ∀ x : Aft wr, x.w.cell? ⟨b2, o2 + q, none⟩ = some (.slice Ar2 R[q].length cr2) := fun x => (x.h.cell (p := ⟨b2, _, none⟩) (Nat.lt_of_lt_of_le hk2 HB.out.size)).trans ((HB.out.cell (p := ⟨b2, _, none⟩) hk2).trans hc2)
              have HV2 := Lib.hid (And.intro hp2 hv2)
              clear hc2 hp2 hv2 hk2
              have hfx := HF1.out L[p] (List.getElem_mem hp)
              have hfy := HF2.out R[q] (List.getElem_mem hq)
              have HX : Hid (∀ x : Aft wr, Calls Tryz.prog 75 #[.slice Ak ks.length ck, .slice Ar1 L[p].length cr1, .slice Ar2 R[q].length cr2] x.w fun e w' => e = .returned (.int .i64 (cmpKR ks L[p] R[q])) ∧ Below x.w.heap.size x.w w') := fun x => rBy_any ks Ak ck Ar1 Ar2 cr1 cr2 L[p] R[q] x.w ((HK2.out.below HB.out HB.out.size).below x.h x.h.size) hks ((HV1.out.2.below HB.out HB.out.size).below x.h x.h.size) ((HV2.out.2.below HB.out HB.out.size).below x.h x.h.size) hfx.2.1 hfy.2.1 (by have := hfx.1; unfold maxLen; omega) (by have := hfy.1; unfold maxLen; omega) fun k hk => ⟨hfx.2.2 k hk, hfy.2.2 k hk⟩
              clear hfx hfy
              by_cases hle : leC (cmpKR ks) L[p] R[q] = true
              · have hc : cmpKR ks L[p] R[q] ≤ 0 := leC_iff.1 hle
                have HG : Hid (∀ os : List (List V), os ++ List.merge (L.drop p) (R.drop q) (leC (cmpKR ks)) = srtC (cmpKR ks) l → (os ++ [L[p]]) ++ List.merge (L.drop (p + 1)) (R.drop (q)) (leC (cmpKR ks)) = srtC (cmpKR ks) l) := fun os h => by
                  rw [List.append_assoc, List.singleton_append, ← mergeC_left hp (.inr ⟨R[q], R.drop (q + 1), List.drop_eq_getElem_cons hq, hle⟩)]
                  exact h
                clear hle
                generalize cmpKR ks L[p] R[q] = cv at HX hc
                go_wp2_with fail
                refine region_aft (by kernel_rfl) (by kernel_rfl) ?_
                repeat (go_big_quiet_step (exact aft_call (HX.out _)))
                refine wpQuiet_nil ?_
                intro x9
                have HB9 := Lib.hid (thn HB.out x9.h)
                obtain ⟨os, vs, s1, s2, s3, s4, -⟩ := HI.out
                have q1 := Blk.new x9.w 34 #[.slice Ar1 L[p].length cr1]
                have q2 := sread_one q1 (B := x9.w.heap.size + 1) (by omega)
                have H9 := Lib.hid (And.intro ((own_below s2 x9.h).alloc (.cells #[.slice Ar1 L[p].length cr1] 34)) (And.intro q2 (And.intro s1 (And.intro s3 s4))))
                clear s1 s2 s3 s4 q1 q2
                go_wp2_with (at_builtin; refine wpList_append_any _ rfl (.tmp 62) (.tmp 67) 23 rfl wc.heap.size 34 i0 (.slice none 0 0) 1 24 Tryz.underlying23 hi hz0 hz1 hz2 rfl (by decide) _ _ _ rfl H9.out.1 (x9.w.heap.size + 1) _ 1 1 [.slice Ar1 L[p].length cr1] rfl H9.out.2.1 ?c1 ?c2 ?c3 ?c4 ?_)
                case c1 => intro u hu; simp only [List.mem_cons, List.not_mem_nil, or_false] at hu; subst hu; rfl
                case c2 => have := HL.out; have := HN.out; unfold maxLen; omega
                case c3 => have := HL.out; have := HN.out; omega
                case c4 => have := HB9.out.size; simp <;> omega
                intro v2 w2 hown2 hgr2 _
                have HN2 : Hid (∃ (os : List (List V)) (vs : List Value), os.length = p + 1 + (q) ∧ w2.ownsRow wc.heap.size 34 1 v2 (p + 1 + (q)) vs ∧ RowsR w2 wc.heap.size vs os ∧ os ++ List.merge (L.drop (p + 1)) (R.drop (q)) (leC (cmpKR ks)) = srtC (cmpKR ks) l ∧ Below wc.heap.size wc w2) := by
                  obtain ⟨x1, x2, x3, x4, x5⟩ := H9.out
                  have hB2 : Below wc.heap.size wc w2 := (al HB9.out _).grown hgr2 (by have := HB9.out.size; simp <;> omega) (own_base x1)
                  have hB3 : Below wc.heap.size wr w2 := (x9.h.mono HB.out.size).trans (((Below.refl _ _).alloc HB9.out.size _).grown hgr2 (by have := HB9.out.size; simp <;> omega) (own_base x1))
                  refine ⟨os ++ [L[p]], vs ++ [.slice Ar1 L[p].length cr1], by rw [List.length_append, List.length_singleton]; omega, ?_, (x4.below hB3).snoc HV1.out.1 ?_, HG.out os x5, hB2⟩
                  · have e : p + 1 + (q) = p + q + 1 := by omega
                    rw [e]; exact hown2
                  · exact HV1.out.2.below hB2 (Nat.le_refl _)
                clear hown2 hgr2
                go_wp2_with fail
                go_roundw
                case rel => exact ⟨p + 1, q, by omega, by omega, by go_num, by go_num, HN2⟩
                case measure => simp [intOf]; omega
              · have hle0 : leC (cmpKR ks) L[p] R[q] = false := by simpa using hle
                have hc : ¬ cmpKR ks L[p] R[q] ≤ 0 := fun h => hle (leC_iff.2 h)
                have HG : Hid (∀ os : List (List V), os ++ List.merge (L.drop p) (R.drop q) (leC (cmpKR ks)) = srtC (cmpKR ks) l → (os ++ [R[q]]) ++ List.merge (L.drop (p)) (R.drop (q + 1)) (leC (cmpKR ks)) = srtC (cmpKR ks) l) := fun os h => by
                  rw [List.append_assoc, List.singleton_append, ← mergeC_right hq (.inr ⟨L[p], L.drop (p + 1), List.drop_eq_getElem_cons hp, hle0⟩)]
                  exact h
                clear hle hle0
                generalize cmpKR ks L[p] R[q] = cv at HX hc
                go_wp2_with fail
                refine region_aft (by kernel_rfl) (by kernel_rfl) ?_
                repeat (go_big_quiet_step (exact aft_call (HX.out _)))
                refine wpQuiet_nil ?_
                intro x9
                have HB9 := Lib.hid (thn HB.out x9.h)
                obtain ⟨os, vs, s1, s2, s3, s4, -⟩ := HI.out
                have q1 := Blk.new x9.w 34 #[.slice Ar2 R[q].length cr2]
                have q2 := sread_one q1 (B := x9.w.heap.size + 1) (by omega)
                have H9 := Lib.hid (And.intro ((own_below s2 x9.h).alloc (.cells #[.slice Ar2 R[q].length cr2] 34)) (And.intro q2 (And.intro s1 (And.intro s3 s4))))
                clear s1 s2 s3 s4 q1 q2
                go_wp2_with (at_builtin; refine wpList_append_any _ rfl (.tmp 71) (.tmp 76) 23 rfl wc.heap.size 34 i0 (.slice none 0 0) 1 24 Tryz.underlying23 hi hz0 hz1 hz2 rfl (by decide) _ _ _ rfl H9.out.1 (x9.w.heap.size + 1) _ 1 1 [.slice Ar2 R[q].length cr2] rfl H9.out.2.1 ?c1 ?c2 ?c3 ?c4 ?_)
                case c1 => intro u hu; simp only [List.mem_cons, List.not_mem_nil, or_false] at hu; subst hu; rfl
                case c2 => have := HL.out; have := HN.out; unfold maxLen; omega
                case c3 => have := HL.out; have := HN.out; omega
                case c4 => have := HB9.out.size; simp <;> omega
                intro v2 w2 hown2 hgr2 _
                have HN2 : Hid (∃ (os : List (List V)) (vs : List Value), os.length = p + (q + 1) ∧ w2.ownsRow wc.heap.size 34 1 v2 (p + (q + 1)) vs ∧ RowsR w2 wc.heap.size vs os ∧ os ++ List.merge (L.drop (p)) (R.drop (q + 1)) (leC (cmpKR ks)) = srtC (cmpKR ks) l ∧ Below wc.heap.size wc w2) := by
                  obtain ⟨x1, x2, x3, x4, x5⟩ := H9.out
                  have hB2 : Below wc.heap.size wc w2 := (al HB9.out _).grown hgr2 (by have := HB9.out.size; simp <;> omega) (own_base x1)
                  have hB3 : Below wc.heap.size wr w2 := (x9.h.mono HB.out.size).trans (((Below.refl _ _).alloc HB9.out.size _).grown hgr2 (by have := HB9.out.size; simp <;> omega) (own_base x1))
                  refine ⟨os ++ [R[q]], vs ++ [.slice Ar2 R[q].length cr2], by rw [List.length_append, List.length_singleton]; omega, ?_, (x4.below hB3).snoc HV2.out.1 ?_, HG.out os x5, hB2⟩
                  · have e : p + (q + 1) = p + q + 1 := by omega
                    rw [e]; exact hown2
                  · exact HV2.out.2.below hB2 (Nat.le_refl _)
                clear hown2 hgr2
                go_wp2_with fail
                go_roundw
                case rel => exact ⟨p, q + 1, by omega, by omega, by go_num, by go_num, HN2⟩
                case measure => simp [intOf]; omega
            · have eqq : ((q : Int) == (R.length : Int)) = true := by simp; omega
              have HB : Hid (Below wc.heap.size wc wr) := HI.out.elim fun _ h => h.elim fun _ h => h.2.2.2.2
              obtain ⟨b1, o1, Ar1, cr1, rfl, hk1, hc1, hp1, hv1⟩ := HR1.out.at_ hp
              have la1 : ∀ x : Aft wr, x.w.cell? ⟨b1, o1 + p, none⟩ = some (.slice Ar1 L[p].length cr1) := fun x => (x.h.cell (p := ⟨b1, _, none⟩) (Nat.lt_of_lt_of_le hk1 HB.out.size)).trans ((HB.out.cell (p := ⟨b1, _, none⟩) hk1).trans hc1)
              have HV1 := Lib.hid (And.intro hp1 hv1)
              clear hc1 hp1 hv1 hk1
              have HG : Hid (∀ os : List (List V), os ++ List.merge (L.drop p) (R.drop q) (leC (cmpKR ks)) = srtC (cmpKR ks) l → (os ++ [L[p]]) ++ List.merge (L.drop (p + 1)) (R.drop (q)) (leC (cmpKR ks)) = srtC (cmpKR ks) l) := fun os h => by
                rw [List.append_assoc, List.singleton_append, ← mergeC_left hp (.inl (List.drop_eq_nil_of_le (by omega)))]
                exact h
              go_wp2_with fail
              refine region_aft (by kernel_rfl) (by kernel_rfl) ?_
              repeat (go_big_quiet_step (fail))
              refine wpQuiet_nil ?_
              intro x9
              have HB9 := Lib.hid (thn HB.out x9.h)
              obtain ⟨os, vs, s1, s2, s3, s4, -⟩ := HI.out
              have q1 := Blk.new x9.w 34 #[.slice Ar1 L[p].length cr1]
              have q2 := sread_one q1 (B := x9.w.heap.size + 1) (by omega)
              have H9 := Lib.hid (And.intro ((own_below s2 x9.h).alloc (.cells #[.slice Ar1 L[p].length cr1] 34)) (And.intro q2 (And.intro s1 (And.intro s3 s4))))
              clear s1 s2 s3 s4 q1 q2
              go_wp2_with (at_builtin; refine wpList_append_any _ rfl (.tmp 62) (.tmp 67) 23 rfl wc.heap.size 34 i0 (.slice none 0 0) 1 24 Tryz.underlying23 hi hz0 hz1 hz2 rfl (by decide) _ _ _ rfl H9.out.1 (x9.w.heap.size + 1) _ 1 1 [.slice Ar1 L[p].length cr1] rfl H9.out.2.1 ?c1 ?c2 ?c3 ?c4 ?_)
              case c1 => intro u hu; simp only [List.mem_cons, List.not_mem_nil, or_false] at hu; subst hu; rfl
              case c2 => have := HL.out; have := HN.out; unfold maxLen; omega
              case c3 => have := HL.out; have := HN.out; omega
              case c4 => have := HB9.out.size; simp <;> omega
              intro v2 w2 hown2 hgr2 _
              have HN2 : Hid (∃ (os : List (List V)) (vs : List Value), os.length = p + 1 + (q) ∧ w2.ownsRow wc.heap.size 34 1 v2 (p + 1 + (q)) vs ∧ RowsR w2 wc.heap.size vs os ∧ os ++ List.merge (L.drop (p + 1)) (R.drop (q)) (leC (cmpKR ks)) = srtC (cmpKR ks) l ∧ Below wc.heap.size wc w2) := by
                obtain ⟨x1, x2, x3, x4, x5⟩ := H9.out
                have hB2 : Below wc.heap.size wc w2 := (al HB9.out _).grown hgr2 (by have := HB9.out.size; simp <;> omega) (own_base x1)
                have hB3 : Below wc.heap.size wr w2 := (x9.h.mono HB.out.size).trans (((Below.refl _ _).alloc HB9.out.size _).grown hgr2 (by have := HB9.out.size; simp <;> omega) (own_base x1))
                refine ⟨os ++ [L[p]], vs ++ [.slice Ar1 L[p].length cr1], by rw [List.length_append, List.length_singleton]; omega, ?_, (x4.below hB3).snoc HV1.out.1 ?_, HG.out os x5, hB2⟩
                · have e : p + 1 + (q) = p + q + 1 := by omega
                  rw [e]; exact hown2
                · exact HV1.out.2.below hB2 (Nat.le_refl _)
              clear hown2 hgr2
              go_wp2_with fail
              go_roundw
              case rel => exact ⟨p + 1, q, by omega, by omega, by go_num, by go_num, HN2⟩
              case measure => simp [intOf]; omega
          · have hpi : ¬ (p : Int) < (L.length : Int) := by omega
            by_cases hq : q < R.length
            · have hqi : (q : Int) < (R.length : Int) := by omega
              have eqq : ((q : Int) == (R.length : Int)) = false := beq_eq_false_iff_ne.2 (by omega)
              have HB : Hid (Below wc.heap.size wc wr) := HI.out.elim fun _ h => h.elim fun _ h => h.2.2.2.2
              obtain ⟨b2, o2, Ar2, cr2, rfl, hk2, hc2, hp2, hv2⟩ := HR2.out.at_ hq
              have la2 : ∀ x : Aft wr, x.w.cell? ⟨b2, o2 + q, none⟩ = some (.slice Ar2 R[q].length cr2) := fun x => (x.h.cell (p := ⟨b2, _, none⟩) (Nat.lt_of_lt_of_le hk2 HB.out.size)).trans ((HB.out.cell (p := ⟨b2, _, none⟩) hk2).trans hc2)
              have HV2 := Lib.hid (And.intro hp2 hv2)
              clear hc2 hp2 hv2 hk2
              have HG : Hid (∀ os : List (List V), os ++ List.merge (L.drop p) (R.drop q) (leC (cmpKR ks)) = srtC (cmpKR ks) l → (os ++ [R[q]]) ++ List.merge (L.drop (p)) (R.drop (q + 1)) (leC (cmpKR ks)) = srtC (cmpKR ks) l) := fun os h => by
                rw [List.append_assoc, List.singleton_append, ← mergeC_right hq (.inl (List.drop_eq_nil_of_le (by omega)))]
                exact h
              go_wp2_with fail
              refine region_aft (by kernel_rfl) (by kernel_rfl) ?_
              repeat (go_big_quiet_step (fail))
              refine wpQuiet_nil ?_
              intro x9
              have HB9 := Lib.hid (thn HB.out x9.h)
              obtain ⟨os, vs, s1, s2, s3, s4, -⟩ := HI.out
              have q1 := Blk.new x9.w 34 #[.slice Ar2 R[q].length cr2]
              have q2 := sread_one q1 (B := x9.w.heap.size + 1) (by omega)
              have H9 := Lib.hid (And.intro ((own_below s2 x9.h).alloc (.cells #[.slice Ar2 R[q].length cr2] 34)) (And.intro q2 (And.intro s1 (And.intro s3 s4))))
              clear s1 s2 s3 s4 q1 q2
              go_wp2_with (at_builtin; refine wpList_append_any _ rfl (.tmp 71) (.tmp 76) 23 rfl wc.heap.size 34 i0 (.slice none 0 0) 1 24 Tryz.underlying23 hi hz0 hz1 hz2 rfl (by decide) _ _ _ rfl H9.out.1 (x9.w.heap.size + 1) _ 1 1 [.slice Ar2 R[q].length cr2] rfl H9.out.2.1 ?c1 ?c2 ?c3 ?c4 ?_)
              case c1 => intro u hu; simp only [List.mem_cons, List.not_mem_nil, or_false] at hu; subst hu; rfl
              case c2 => have := HL.out; have := HN.out; unfold maxLen; omega
              case c3 => have := HL.out; have := HN.out; omega
              case c4 => have := HB9.out.size; simp <;> omega
              intro v2 w2 hown2 hgr2 _
              have HN2 : Hid (∃ (os : List (List V)) (vs : List Value), os.length = p + (q + 1) ∧ w2.ownsRow wc.heap.size 34 1 v2 (p + (q + 1)) vs ∧ RowsR w2 wc.heap.size vs os ∧ os ++ List.merge (L.drop (p)) (R.drop (q + 1)) (leC (cmpKR ks)) = srtC (cmpKR ks) l ∧ Below wc.heap.size wc w2) := by
                obtain ⟨x1, x2, x3, x4, x5⟩ := H9.out
                have hB2 : Below wc.heap.size wc w2 := (al HB9.out _).grown hgr2 (by have := HB9.out.size; simp <;> omega) (own_base x1)
                have hB3 : Below wc.heap.size wr w2 := (x9.h.mono HB.out.size).trans (((Below.refl _ _).alloc HB9.out.size _).grown hgr2 (by have := HB9.out.size; simp <;> omega) (own_base x1))
                refine ⟨os ++ [R[q]], vs ++ [.slice Ar2 R[q].length cr2], by rw [List.length_append, List.length_singleton]; omega, ?_, (x4.below hB3).snoc HV2.out.1 ?_, HG.out os x5, hB2⟩
                · have e : p + (q + 1) = p + q + 1 := by omega
                  rw [e]; exact hown2
                · exact HV2.out.2.below hB2 (Nat.le_refl _)
              clear hown2 hgr2
              go_wp2_with fail
              go_roundw
              case rel => exact ⟨p, q + 1, by omega, by omega, by go_num, by go_num, HN2⟩
              case measure => simp [intOf]; omega
            · have hqi : ¬ (q : Int) < (R.length : Int) := by omega
              have HE : Hid (∃ A' c', u7 = .slice A' l.length c' ∧ LReads wr wr.heap.size A' (srtC (cmpKR ks) l) ∧ Below w.heap.size w wr) := by
                obtain ⟨os, vs, s1, s2, s3, s4, s5⟩ := HI.out
                rw [List.drop_eq_nil_of_le (by omega), List.drop_eq_nil_of_le (by omega)] at s4
                have s6 : os = srtC (cmpKR ks) l := by simpa using s4
                rw [← s1, s6] at s2
                rw [s6] at s3
                obtain ⟨A', c', e1, e2⟩ := own_lreads s2 s3 s5.size
                rw [HL0.out] at e1
                exact ⟨A', c', e1, e2, thn HB0.out s5⟩
              obtain ⟨A', c', rfl, -⟩ := HE.out
              go_wp2_with fail
              go_ret
              obtain ⟨A2, c2, e1, e2, e3⟩ := HE.out
              injection e1 with f1 f2 f3
              subst f1 f3
              exact ⟨A', ⟨c', rfl⟩, e2, e3⟩
end Go.Proofs.YtapnnheggjahlaaGreatDoor
