/-
  THE WALK of RowsOwn.
-/
import Derived.Test.YtapnnheggjahlaaGreatDoorOwnW
import Derived.Test.YtapnnheggjahlaaGreatDoorRfB
import Derived.Test.YtapnnheggjahlaaGreatDoorLAP
namespace Go.Proofs.YtapnnheggjahlaaGreatDoor
open Go.RowKit

theorem Canonical_hdr (A : Option Addr) (c m N : Nat) (L : List (List V)) (w : World) (hN : N ≤ w.heap.size) (hr : LReads w w.heap.size A L) (h : NiceL m L) (hm : m ≤ 20000) :
    Calls Tryz.prog 25 #[.slice A L.length c] w fun e w' => ∃ Ao no co, e = .returned (.tuple #[.slice Ao no co, .int .i64 0]) ∧ HdrOk w' N (.slice Ao no co) ∧ Below w.heap.size w w' :=
  (Canonical_ok A c L w hr (h.inL (by unfold maxLen; omega)) (h.chk hm)).mono fun e w' ⟨g, vs, h1, h2, h3, h4, h5⟩ => ⟨_, _, _, h1, blk_hdr h3 h4 (Nat.le_trans hN h2) hN (fun r hr => (h.fit r (srtC_mem.1 hr)).1) (by rw [srtC_len]; omega) (by have := h.1; omega), h5⟩

theorem Distinct_hdr (A : Option Addr) (c m N : Nat) (L : List (List V)) (w : World) (hN : N ≤ w.heap.size) (hG : G w) (hr : LReads w w.heap.size A L) (h : NiceL m L) (hm : m ≤ 20000) :
    Calls Tryz.prog 31 #[.slice A L.length c] w fun e w' => ∃ Ao no co, e = .returned (.tuple #[.slice Ao no co, .int .i64 0]) ∧ HdrOk w' N (.slice Ao no co) ∧ Below w.heap.size w w' := by
  have h0 := h.chk hm
  refine (Distinct_ok A c L w hG hr (h.inL (by unfold maxLen; omega)) h0).mono fun e w' ⟨v, h1, h2, h3⟩ => ?_
  obtain ⟨Ao, co, rfl⟩ := own_slice h2.choose_spec.1
  exact ⟨Ao, _, co, h1, h2.hdr hN (fun r hr => (h.fit r (srtC_mem.1 (ddR_mem hr))).1) (by have h1 := h.1; have h2 := ddR_len (canon L); rw [srtC_len] at h2; omega), h3⟩

theorem Both_hdr (A A' : Option Addr) (c c' m m' N : Nat) (L L2 : List (List V)) (all : Bool) (w : World) (hN : N ≤ w.heap.size) (hG : G w) (hr : LReads w w.heap.size A L) (hr2 : LReads w w.heap.size A' L2) (h : NiceL m L) (h' : NiceL m' L2) (hm : m ≤ 20000) (hm' : m' ≤ 20000) :
    Calls Tryz.prog 35 #[.slice A L.length c, .slice A' L2.length c', .bool all] w fun e w' => ∃ Ao no co, e = .returned (.tuple #[.slice Ao no co, .int .i64 0]) ∧ HdrOk w' N (.slice Ao no co) ∧ Below w.heap.size w w' := by
  have h0 := h.chk2 h' hm hm'
  have f1 := (fine_of h0 (L := L) (by simp) (h.inL (by unfold maxLen; omega))).1
  have f2 := (fine_of h0 (L := L2) (by simp) (h'.inL (by unfold maxLen; omega))).1
  refine (Both_ok A A' c c' L L2 all w hG hr hr2 (h.inL (by unfold maxLen; omega)) (h'.inL (by unfold maxLen; omega)) h0).mono fun e w' ⟨v, h1, h2, h3⟩ => ?_
  rw [both_choose all f1 f2] at h2
  obtain ⟨Ao, co, rfl⟩ := own_slice h2.choose_spec.1
  exact ⟨Ao, _, co, h1, h2.hdr hN (fun r hr => (h.fit r (bothR_mem hr)).1) (by have h1 := h.1; have h2 := bothR_len all L L2; omega), h3⟩

theorem Minus_hdr (A A' : Option Addr) (c c' m m' N : Nat) (L L2 : List (List V)) (all : Bool) (w : World) (hN : N ≤ w.heap.size) (hG : G w) (hr : LReads w w.heap.size A L) (hr2 : LReads w w.heap.size A' L2) (h : NiceL m L) (h' : NiceL m' L2) (hm : m ≤ 20000) (hm' : m' ≤ 20000) :
    Calls Tryz.prog 36 #[.slice A L.length c, .slice A' L2.length c', .bool all] w fun e w' => ∃ Ao no co, e = .returned (.tuple #[.slice Ao no co, .int .i64 0]) ∧ HdrOk w' N (.slice Ao no co) ∧ Below w.heap.size w w' := by
  have h0 := h.chk2 h' hm hm'
  have f1 := (fine_of h0 (L := L) (by simp) (h.inL (by unfold maxLen; omega))).1
  have f2 := (fine_of h0 (L := L2) (by simp) (h'.inL (by unfold maxLen; omega))).1
  refine (Minus_ok A A' c c' L L2 all w hG hr hr2 (h.inL (by unfold maxLen; omega)) (h'.inL (by unfold maxLen; omega)) h0).mono fun e w' ⟨v, h1, h2, h3⟩ => ?_
  rw [minus_choose all f1 f2] at h2
  obtain ⟨Ao, co, rfl⟩ := own_slice h2.choose_spec.1
  exact ⟨Ao, _, co, h1, h2.hdr hN (fun r hr => (h.fit r (minusR_mem hr)).1) (by have h1 := h.1; have h2 := minusR_len all L L2; omega), h3⟩

theorem Ordered_hdr (A : Option Addr) (c m N g : Nat) (L : List (List V)) (w : World) (hN : N ≤ w.heap.size) (hr : LReads w w.heap.size A L) (h : NiceL m L) (hm : m ≤ 20000) (hk : KReads w w.heap.size (some ⟨g, 0, none⟩) (kI [(1, false)])) :
    Calls Tryz.prog 42 #[.slice A L.length c, .slice (some ⟨g, 0, none⟩) 1 1] w fun e w' => ∃ Ao no co, e = .returned (.tuple #[.slice Ao no co, .int .i64 0]) ∧ HdrOk w' N (.slice Ao no co) ∧ Below w.heap.size w w' := by
  by_cases hne : L = []
  · subst hne
    exact (Ordered_none A c (some ⟨g, 0, none⟩) 1 1 w hr (h.chk hm)).mono fun e w' ⟨Ao, co, h1, h2⟩ => ⟨Ao, 0, co, h1, ⟨Ao, 0, co, rfl, Nat.zero_le _, fun h => absurd h (by omega)⟩, h2⟩
  · have f1 := fine_of (h.chk hm) (L := L) (by simp) (h.inL (by unfold maxLen; omega))
    have hsh : 1 < sh L := by
      rcases sh_is L with e | ⟨r, hr, e⟩
      · omega
      · rw [e, (h.2 r hr).1]; omega
    exact (Ordered_ok A c L (some ⟨g, 0, none⟩) 1 [(1, false)] w hr (h.inL (by unfold maxLen; omega)) (h.chk hm) hne hk (by simp) (fun k hk => by simp only [List.mem_cons, List.not_mem_nil, or_false] at hk; subst hk; exact hsh)).mono fun e w' ⟨g, vs, h1, h2, h3, h4, h5⟩ => ⟨_, _, _, h1, blk_hdr h3 h4 (Nat.le_trans hN h2) hN (fun r hr => (h.fit r (srtC_mem.1 hr)).1) (by rw [srtC_len]; omega) (by have := h.1; omega), h5⟩
theorem Groups_hdr (A : Option Addr) (c m N g : Nat) (L : List (List V)) (w : World) (hN : N ≤ w.heap.size) (hr : LReads w w.heap.size A L) (h : NiceL m L) (hm : m ≤ 20000) (hp : IReads w w.heap.size (some ⟨g, 0, none⟩) [0]) :
    Calls Tryz.prog 39 #[.slice A L.length c, .slice (some ⟨g, 0, none⟩) 1 1] w fun e w' => ∃ Ao no co hs, e = .returned (.tuple #[.slice Ao no co, .int .i64 0]) ∧ no ≤ m ∧ Reads w' w'.heap.size 1 Ao no hs ∧ (∀ u ∈ hs, u.oneCell' = true ∧ HdrOk w' N u) ∧ Below w.heap.size w w' := by
  have hpb : placesB L [0] = true := List.all_eq_true.2 fun r hr => by
    have := (h.2 r hr).1
    simp [plB, this]
  have he : ordE L (pK [0]) = 0 := ordE_place (h.chk hm) (by rw [pK_fst]; exact hpb)
  have q := Groups_any A c L (some ⟨g, 0, none⟩) 1 [0] w hr (h.inL (by unfold maxLen; omega)) hp (by simp)
  rw [he] at q
  refine q.mono fun e w' ⟨v, h1, h2, _, h4⟩ => ?_
  obtain ⟨ds, hd, g2, vs, xs, hg, hb, hrs, hxs, ho⟩ := h2 rfl
  obtain ⟨Ao, co, rfl⟩ := own_slice ho
  have hl : xs.length ≤ m := by
    have e1 : xs.length = (groupsR (natP [0]) L).length := by rw [← gout_groups hd, ← hxs, List.length_map]
    have e2 : (groupsR (natP [0]) L).length ≤ L.length := (gfacts (natP [0]) L).few1
    have := h.1
    omega
  refine ⟨Ao, _, co, _, h1, hl, Reads.of_own ho, fun u hu => ?_, h4⟩
  obtain ⟨x, -, rfl⟩ := List.mem_map.1 hu
  refine ⟨rfl, blk_hdr hb hrs (Nat.le_trans hN hg) hN (fun r hr => (h.fit r (srtC_mem.1 hr)).1) ?_ ?_⟩
  · have := x.h1; have := x.h2; omega
  · have e := srtC_len (c := cmpKR ds) L
    have := x.h2
    have := h.1
    omega
theorem own_typed {w : World} {base n : Nat} {v : Value} {xs : List Value} (h : w.ownsRow base tL 1 v n xs) (g : Nat) (hg : v.ownBlock = some g) : ∃ cs, Blk w g tL cs := by
  rcases h.2 with ⟨rfl, _⟩ | ⟨b, cap, cur, rfl, _, hh, _⟩
  · cases hg
  · injection hg with hg
    have hg : b = g := hg
    subst hg
    exact ⟨cur, hh⟩
theorem winv_of {w2 w : World} {n : Nat} {v : Value} {hs : List Value} (ho : w.ownsRow w2.heap.size tL 1 v n hs) (hb : Below w2.heap.size w2 w) (h : ∀ u ∈ hs, HdrOk w w2.heap.size u) (hn : 0 < n) : ∃ gl cap csL, v = .slice (some ⟨gl, 0, none⟩) n cap ∧ WInv w2 gl csL n w := by
  rcases ho.2 with ⟨_, h0⟩ | ⟨g, cap, cur, rfl, hg, hh, hnc, _, hsz, htk⟩
  · omega
  · refine ⟨g, cap, cur, rfl, hb, hh, fun i hi => ?_⟩
    have hl : i < hs.length := by rw [ho.1]; omega
    obtain ⟨y, hy⟩ : ∃ y, hs[i]? = some y := ⟨_, List.getElem?_eq_getElem hl⟩
    refine ⟨y, ?_, h y (List.mem_of_getElem? hy)⟩
    rw [← htk, List.getElem?_take, if_pos (by omega)] at hy
    simpa using hy
theorem makeG (W : World) : ∃ C : Array Value, C.size = 6 ∧ (Instr.makeSlice 53 (.int .i64 0) (.int .i64 6)).run Tryz.prog W = .ok (.slice (some ⟨W.heap.size, 0, none⟩) 0 6) (W.alloc (.cells C 23)) := by
  obtain ⟨i0, hi, hz0, hz1, hz2⟩ := info_parts infoLL
  have h := run_make (P := Tryz.prog) (w := W) 53 23 i0 (.slice none 0 0) Tryz.underlying53 hi hz0 .i64 .i64 0 6 (by omega) (by omega) (by rw [hz2]; omega) (by omega)
  rw [hz1] at h
  exact ⟨_, by simp [madeCells], h⟩
theorem ownG0 (W : World) (C : Array Value) (h : C.size = 6) : (W.alloc (.cells C 23)).ownsRow W.heap.size 23 1 (.slice (some ⟨W.heap.size, 0, none⟩) 0 6) 0 [] :=
  ⟨rfl, .inr ⟨W.heap.size, 6, C, rfl, Nat.le_refl _, heap_alloc_new W _, by omega, by unfold maxLen; omega, by rw [h], by simp⟩⟩
/-- what the writing region holds -/
def dWr (l : Value) (i : Nat) (pi : Addr) (h : Value) (m : Nat) (pm : Addr) (r : Value) (k : Nat) (pk : Addr) : Nat → Value → World → Prop
  | 0, v, _ => v = l
  | 1, v, _ => v = .int .i64 (i : Nat)
  | 2, v, _ => v = .pointer (some pi)
  | 3, v, _ => v = h
  | 4, v, _ => v = .int .i64 (m : Nat)
  | 5, v, _ => v = .pointer (some pm)
  | 6, v, _ => v = r
  | 7, v, _ => v = .int .i64 (k : Nat)
  | 8, v, _ => v = .agg #[.int .i64 1, .int .i64 99, .string ⟨#[]⟩]
  | _, v, _ => v = .pointer (some pk)
theorem dWr_below {l : Value} {i : Nat} {pi : Addr} {h : Value} {m : Nat} {pm : Addr} {r : Value} {k : Nat} {pk : Addr} (j : Nat) (v : Value) (w1 w2 : World) (_hb : Below w1.heap.size w1 w2) (hd : dWr l i pi h m pm r k pk j v w1) : dWr l i pi h m pm r k pk j v w2 := by
  unfold dWr at hd ⊢
  split at hd <;> exact hd

set_option maxHeartbeats 8000000 in
set_option maxRecDepth 100000 in
theorem RowsOwn_any (A A' : Option Addr) (c c' : Nat) (L L2 : List (List V)) (w : World) (hG : G w) (hl : LReads0 w w.heap.size A L) (hl2 : LReads0 w w.heap.size A' L2) (hL : InL L) (hL2 : InL L2) :
    Calls Tryz.prog 13 #[.slice A L.length c, .slice A' L2.length c'] w fun e w' => e = .returned (.bool true) ∧ Below w.heap.size w w' := by
  have HF := Lib.hid (And.intro hL hL2)
  have H0 := Lib.hid (And.intro hG (And.intro hl hl2))
  clear hG hl hl2 hL hL2
  obtain ⟨i0, hi, hz0, hz1, hz2⟩ := info_parts infoLL
  go_enter Tryz.func13, Tryz.ntmps13
  go_wp2_with fail
  refine (some_any A c L 12 w H0.out.2.1 HF.out.1 (by omega)).mono ?_
  rintro e w1 ⟨A1, c1, a, rfl, -, hn, hc, hl, hb⟩
  have S1 := Lib.hid (And.intro (H0.out.1.thn hb) (And.intro (H0.out.2.2.below hb hb.size) (And.intro (thn (Below.refl w.heap.size w) hb) (hl))))
  have Na := Lib.hid (And.intro hn hc)
  clear hn hc hl hb
  go_wp2_with fail
  refine (some_any A' c' L2 12 w1 S1.out.2.1 HF.out.2 (by omega)).mono ?_
  rintro e w2 ⟨A2, c2, b, rfl, -, hn, hc, hl, hb⟩
  have S2 := Lib.hid (And.intro (S1.out.1.thn hb) (And.intro (thn S1.out.2.2.1 hb) (And.intro (S1.out.2.2.2.below hb hb.size) (hl))))
  have Nb := Lib.hid (And.intro hn hc)
  clear hn hc hl hb H0 HF S1
  go_wp2_with fail
  refine (RCopy_any A1 c1 a w2 S2.out.2.2.1 (by have := Na.out.1.1; omega) (fun r h => (Na.out.1.fit r h).1)).mono ?_
  rintro e w3 ⟨v, vs, rfl, ho, hrs, -, hb⟩
  obtain ⟨A3, c3, rfl, hl⟩ := OutR.lreads ⟨vs, ho, hrs⟩
  have S3 := Lib.hid (And.intro (S2.out.1.thn hb) (And.intro (thn S2.out.2.1 hb) (And.intro (S2.out.2.2.1.below hb hb.size) (And.intro (S2.out.2.2.2.below hb hb.size) (hl)))))
  clear ho hrs hb hl
  go_wp2_with fail
  refine (RCopy_any A2 c2 b w3 S3.out.2.2.2.1 (by have := Nb.out.1.1; omega) (fun r h => (Nb.out.1.fit r h).1)).mono ?_
  rintro e w4 ⟨v, vs, rfl, ho, hrs, -, hb⟩
  obtain ⟨A4, c4, rfl, hl⟩ := OutR.lreads ⟨vs, ho, hrs⟩
  have S4 := Lib.hid (And.intro (S3.out.1.thn hb) (And.intro (thn S3.out.2.1 hb) (And.intro (S3.out.2.2.1.below hb hb.size) (And.intro (S3.out.2.2.2.1.below hb hb.size) (And.intro (S3.out.2.2.2.2.below hb hb.size) (hl))))))
  clear ho hrs hb hl
  have SB := Lib.hid (And.intro S4.out.2.2.1 (And.intro S4.out.2.2.2.1 (And.intro S4.out.2.2.2.2.1 (And.intro S4.out.2.2.2.2.2 (And.intro S4.out.1 S4.out.2.1)))))
  obtain ⟨C, hC, hmk⟩ := makeG w4
  have hown0 := ownG0 w4 C hC
  have hb5 : Below w4.heap.size w4 (w4.alloc (.cells C 23)) := al (Below.refl _ _) _
  have S5 := Lib.hid (And.intro (SB.out.1.below hb5 hb5.size) (And.intro (SB.out.2.1.below hb5 hb5.size) (And.intro (SB.out.2.2.2.2.1.thn hb5) (And.intro hb5 hown0))))
  go_wp2_with fail
  clear hmk hown0 hb5 hC
  generalize (w4.alloc (.cells C 23)) = w5 at *
  refine (Canonical_hdr A1 c1 12 w4.heap.size a w5 S5.out.2.2.2.1.size S5.out.1 Na.out.1 (by omega)).mono ?_
  rintro e w6 ⟨A6, n6, c6, rfl, hh, hb⟩
  have S6 := Lib.hid (And.intro (S5.out.1.below hb hb.size) (And.intro (S5.out.2.1.below hb hb.size) (And.intro (S5.out.2.2.1.thn hb) (And.intro (thn S5.out.2.2.2.1 hb) (And.intro (own_below S5.out.2.2.2.2 hb) (hh))))))
  clear hh hb
  go_wp2_with fail
  refine (Distinct_hdr A1 c1 12 w4.heap.size a w6 S6.out.2.2.2.1.size S6.out.2.2.1 S6.out.1 Na.out.1 (by omega)).mono ?_
  rintro e w7 ⟨A7, n7, c7, rfl, hh, hb⟩
  have S7 := Lib.hid (And.intro (S6.out.1.below hb hb.size) (And.intro (S6.out.2.1.below hb hb.size) (And.intro (S6.out.2.2.1.thn hb) (And.intro (thn S6.out.2.2.2.1 hb) (And.intro (own_below S6.out.2.2.2.2.1 hb) (And.intro (S6.out.2.2.2.2.2.below hb) (hh)))))))
  clear hh hb
  go_wp2_with fail
  refine (Both_hdr A1 A2 c1 c2 12 12 w4.heap.size a b true w7 S7.out.2.2.2.1.size S7.out.2.2.1 S7.out.1 S7.out.2.1 Na.out.1 Nb.out.1 (by omega) (by omega)).mono ?_
  rintro e w8 ⟨A8, n8, c8, rfl, hh, hb⟩
  have S8 := Lib.hid (And.intro (S7.out.1.below hb hb.size) (And.intro (S7.out.2.1.below hb hb.size) (And.intro (S7.out.2.2.1.thn hb) (And.intro (thn S7.out.2.2.2.1 hb) (And.intro (own_below S7.out.2.2.2.2.1 hb) (And.intro (S7.out.2.2.2.2.2.1.below hb) (And.intro (S7.out.2.2.2.2.2.2.below hb) (hh))))))))
  clear hh hb
  go_wp2_with fail
  refine (Minus_hdr A1 A2 c1 c2 12 12 w4.heap.size a b false w8 S8.out.2.2.2.1.size S8.out.2.2.1 S8.out.1 S8.out.2.1 Na.out.1 Nb.out.1 (by omega) (by omega)).mono ?_
  rintro e w9 ⟨A9, n9, c9, rfl, hh, hb⟩
  have S9 := Lib.hid (And.intro (S8.out.1.below hb hb.size) (And.intro (S8.out.2.1.below hb hb.size) (And.intro (S8.out.2.2.1.thn hb) (And.intro (thn S8.out.2.2.2.1 hb) (And.intro (own_below S8.out.2.2.2.2.1 hb) (And.intro (S8.out.2.2.2.2.2.1.below hb) (And.intro (S8.out.2.2.2.2.2.2.1.below hb) (And.intro (S8.out.2.2.2.2.2.2.2.below hb) (hh)))))))))
  clear hh hb
  go_wp2_with fail
  have hbk : Below w9.heap.size w9 (w9.alloc (.cells #[.int .i64 1, .bool false] 61)) := al (Below.refl _ _) _
  have hkr : KReads (w9.alloc (.cells #[.int .i64 1, .bool false] 61)) (w9.alloc (.cells #[.int .i64 1, .bool false] 61)).heap.size (some ⟨w9.heap.size, 0, none⟩) (kI [(1, false)]) := kreads_blk (ks := [(1, false)]) (Blk.new _ _ _) (by simp)
  have S10 := Lib.hid (And.intro (S9.out.1.below hbk hbk.size) (And.intro (S9.out.2.1.below hbk hbk.size) (And.intro (S9.out.2.2.1.thn hbk) (And.intro (thn S9.out.2.2.2.1 hbk) (And.intro (own_below S9.out.2.2.2.2.1 hbk) (And.intro (S9.out.2.2.2.2.2.1.below hbk) (And.intro (S9.out.2.2.2.2.2.2.1.below hbk) (And.intro (S9.out.2.2.2.2.2.2.2.1.below hbk) (And.intro (S9.out.2.2.2.2.2.2.2.2.below hbk) (hkr))))))))))
  clear hbk hkr
  generalize hw9 : w9.alloc (.cells #[.int .i64 1, .bool false] 61) = w10 at *
  generalize w9.heap.size = g9 at *
  clear hw9
  refine (Ordered_hdr A1 c1 12 w4.heap.size g9 a w10 S10.out.2.2.2.1.size S10.out.1 Na.out.1 (by omega) S10.out.2.2.2.2.2.2.2.2.2).mono ?_
  rintro e w11 ⟨A11, n11, c11, rfl, hh, hb⟩
  have S11 := Lib.hid (And.intro (S10.out.1.below hb hb.size) (And.intro (thn S10.out.2.2.2.1 hb) (And.intro (own_below S10.out.2.2.2.2.1 hb) (And.intro (S10.out.2.2.2.2.2.1.below hb) (And.intro (S10.out.2.2.2.2.2.2.1.below hb) (And.intro (S10.out.2.2.2.2.2.2.2.1.below hb) (And.intro (S10.out.2.2.2.2.2.2.2.2.1.below hb) (hh))))))))
  clear hh hb
  have HH : Hid (∀ u ∈ ([.slice A6 n6 c6, .slice A7 n7 c7, .slice A8 n8 c8, .slice A9 n9 c9, .slice A11 n11 c11] : List Value), HdrOk w11 w4.heap.size u) := Lib.hid fun u hu => by
    simp only [List.mem_cons, List.not_mem_nil, or_false] at hu
    rcases hu with rfl | rfl | rfl | rfl | rfl
    · exact S11.out.2.2.2.1
    · exact S11.out.2.2.2.2.1
    · exact S11.out.2.2.2.2.2.1
    · exact S11.out.2.2.2.2.2.2.1
    · exact S11.out.2.2.2.2.2.2.2
  have S11 := Lib.hid (And.intro S11.out.2.1 S11.out.2.2.1)
  have q1 : Reads (w11.alloc (.cells ([.slice A6 n6 c6, .slice A7 n7 c7, .slice A8 n8 c8, .slice A9 n9 c9, .slice A11 n11 c11] : List Value).toArray 23)) (w11.heap.size + 1) 1 (some ⟨w11.heap.size, 0, none⟩) 5 [.slice A6 n6 c6, .slice A7 n7 c7, .slice A8 n8 c8, .slice A9 n9 c9, .slice A11 n11 c11] := reads_sub (vs := [.slice A6 n6 c6, .slice A7 n7 c7, .slice A8 n8 c8, .slice A9 n9 c9, .slice A11 n11 c11]) (Blk.new _ _ _) (by omega) 0 5 (by simp)
  have S11q := Lib.hid q1
  clear q1
  go_wp2_with (at_builtin; refine wpList_append_any _ rfl (.tmp 63) (.tmp 69) 53 rfl w4.heap.size 23 i0 (.slice none 0 0) 1 24 Tryz.underlying53 hi hz0 hz1 hz2 rfl (by decide) _ _ _ rfl (S11.out.2.alloc _) (w11.heap.size + 1) _ 5 5 [.slice A6 n6 c6, .slice A7 n7 c7, .slice A8 n8 c8, .slice A9 n9 c9, .slice A11 n11 c11] rfl S11q.out ?c1 ?c2 ?c3 ?c4 ?_)
  case c1 => intro u hu; simp only [List.mem_cons, List.not_mem_nil, or_false] at hu; rcases hu with rfl | rfl | rfl | rfl | rfl <;> rfl
  case c2 => unfold maxLen; omega
  case c3 => omega
  case c4 => have := S11.out.1.size; simp <;> omega
  intro v12 w12 ho12 hg12 _
  have hoA : (w11.alloc (.cells ([.slice A6 n6 c6, .slice A7 n7 c7, .slice A8 n8 c8, .slice A9 n9 c9, .slice A11 n11 c11] : List Value).toArray 23)).ownsRow w4.heap.size 23 1 (.slice (some ⟨w4.heap.size, 0, none⟩) 0 6) 0 [] := S11.out.2.alloc _
  have hlow12 : Below w4.heap.size w4 w12 := (al S11.out.1 _).grown hg12 (by have := S11.out.1.size; simp <;> omega) (own_base hoA)
  have hh12 : ∀ u ∈ ([.slice A6 n6 c6, .slice A7 n7 c7, .slice A8 n8 c8, .slice A9 n9 c9, .slice A11 n11 c11] : List Value), HdrOk w12 w4.heap.size u := fun u hu => ((HH.out u hu).below (al (Below.refl _ _) _)).grown hg12 (own_typed hoA)
  generalize ([.slice A6 n6 c6, .slice A7 n7 c7, .slice A8 n8 c8, .slice A9 n9 c9, .slice A11 n11 c11] : List Value) = h5 at *
  have bI : Below w12.heap.size w12 (w12.alloc (.cells #[.int .i64 0] 3)) := al (Below.refl _ _) _
  have hir : IReads (w12.alloc (.cells #[.int .i64 0] 3)) (w12.alloc (.cells #[.int .i64 0] 3)).heap.size (some ⟨w12.heap.size, 0, none⟩) [0] := ireads_blk (ps := [0]) (qs := []) (Blk.new _ _ _) (by simp)
  have S12 := Lib.hid (And.intro (thn hlow12 bI) (And.intro (own_below ho12 bI) (And.intro (fun u hu => (hh12 u hu).below bI : ∀ u ∈ h5, HdrOk _ w4.heap.size u) hir)))
  have hsz12 := hlow12.size
  clear ho12 hg12 hoA hlow12 hh12 bI hir HH S11 S11q
  go_wp2_with fail
  generalize hw13 : w12.alloc (.cells #[.int .i64 0] 3) = w13 at *
  generalize w12.heap.size = g12 at *
  clear hw13
  refine (Groups_hdr A1 c1 12 w4.heap.size g12 a w13 S12.out.1.size (SB.out.1.below S12.out.1 S12.out.1.size) Na.out.1 (by omega) S12.out.2.2.2).mono ?_
  rintro e w14 ⟨Ag, ng, cg, hsG, rfl, hng, hrd, hhG, hb⟩
  have S14 := Lib.hid (And.intro (thn S12.out.1 hb) (And.intro (own_below S12.out.2.1 hb) (And.intro (fun u hu => (S12.out.2.2.1 u hu).below hb : ∀ u ∈ h5, HdrOk _ w4.heap.size u) (And.intro hrd hhG))))
  clear hb hrd hhG S12 hsz12
  go_wp2_with (at_builtin; refine wpList_append_any _ rfl (.tmp 77) (.tmp 78) 53 rfl w4.heap.size 23 i0 (.slice none 0 0) 1 24 Tryz.underlying53 hi hz0 hz1 hz2 rfl (by decide) _ _ _ rfl S14.out.2.1 w14.heap.size Ag ng cg hsG rfl S14.out.2.2.2.1 ?d1 ?d2 ?d3 ?d4 ?_)
  case d1 => exact fun u hu => (S14.out.2.2.2.2 u hu).1
  case d2 => unfold maxLen; omega
  case d3 => omega
  case d4 => exact S14.out.1.size
  intro v15 w15 ho15 hg15 _
  have hlow15 : Below w4.heap.size w4 w15 := S14.out.1.grown hg15 S14.out.1.size (own_base S14.out.2.1)
  obtain ⟨gl, cl, csL, rfl, hWI⟩ := winv_of ho15 hlow15 (fun u hu => by
    have hall : ∀ u ∈ h5 ++ hsG, HdrOk w14 w4.heap.size u := fun u hu => (List.mem_append.1 hu).elim (S14.out.2.2.1 u) (fun h => (S14.out.2.2.2.2 u h).2)
    exact (hall u (by simpa using hu)).grown hg15 (own_typed S14.out.2.1)) (by omega)
  have HWI := Lib.hid hWI
  clear ho15 hg15 hlow15 hWI S14
  obtain ⟨n0, hn0⟩ : ∃ n, n = 5 + ng := ⟨_, rfl⟩
  rw [← hn0] at HWI ⊢
  have hn17 : n0 ≤ 17 := by omega
  clear hn0
  go_wp2_with fail
  go_loopw [22] (fun ii wr => ∃ i : Nat, i ≤ n0 ∧ ii = .int .i64 i ∧ Hid (WInv w4 gl csL n0 wr)) (fun ii _ => n0 - (intOf ii).toNat)
  case atStart => exact ⟨0, Nat.zero_le _, rfl, HWI⟩
  case round =>
    obtain ⟨i, hi1, rfl, HI⟩ := hrel
    by_cases hli : i < n0
    · obtain ⟨u, hu, Ah, nh, ch, rfl, hnh, -⟩ := HI.out.hdr i hli
      have HU := Lib.hid hu
      have kl := (HI.out.blk.cell i).trans hu
      have hii : (i : Int) < (n0 : Int) := by omega
      clear hu kl
      go_wp2_with fail
      go_loopw [23] (fun mm wr => ∃ m : Nat, m ≤ nh ∧ mm = .int .i64 m ∧ Hid (WInv w4 gl csL n0 wr)) (fun mm _ => nh - (intOf mm).toNat)
      case atStart => exact ⟨0, Nat.zero_le _, rfl, HI⟩
      case round =>
        obtain ⟨m, hm1, rfl, HJ⟩ := hrel
        have kl := (HJ.out.blk.cell i).trans HU.out
        by_cases hlm : m < nh
        · obtain ⟨g, o, csG, rfl, hgN, hgB, hgR⟩ := (HJ.out.at_ hli HU.out).2 (by omega)
          obtain ⟨r, hr, Ar, nr, cr, rfl, hnr, hrow⟩ := hgR m hlm
          have kr := (hgB.cell (o + m)).trans hr
          have hmm : (m : Int) < (nh : Int) := by omega
          have HK0 : Hid (WInv w4 gl csL n0 wr ∧ Blk wr g tR csG ∧ (0 < nr → ∃ b o cs, Ar = some ⟨b, o, none⟩ ∧ w4.heap.size ≤ b ∧ Blk wr b tV cs ∧ o + nr * 3 ≤ cs.size)) := ⟨HJ.out, hgB, hrow⟩
          have HGR := Lib.hid (And.intro hr hgN)
          clear hgB hgR hr hrow kr hgN
          go_wp2_with fail
          go_loopw [24] (fun kk wi => ∃ k : Nat, k ≤ nr ∧ kk = .int .i64 k ∧ Hid (WInv w4 gl csL n0 wi ∧ Blk wi g tR csG ∧ (0 < nr → ∃ b o cs, Ar = some ⟨b, o, none⟩ ∧ w4.heap.size ≤ b ∧ Blk wi b tV cs ∧ o + nr * 3 ≤ cs.size))) (fun kk _ => nr - (intOf kk).toNat)
          case atStart => exact ⟨0, Nat.zero_le _, rfl, HK0⟩
          case round =>
            obtain ⟨k, hk1, rfl, HK⟩ := hrel
            clear kl
            have kl := (HK.out.1.blk.cell i).trans HU.out
            have kr := (HK.out.2.1.cell (o + m)).trans HGR.out.1
            by_cases hlk : k < nr
            · obtain ⟨b, oo, cs, rfl, hbN, hbB, hbs⟩ := HK.out.2.2 (by omega)
              have hkk : (k : Int) < (nr : Int) := by omega
              have HX := Lib.hid (And.intro hbN (And.intro hbB hbs))
              have hlw := HK.out.1.blk.lt
              have hgw := HK.out.2.1.lt
              clear hbN hbB hbs
              go_wp2_with fail
              refine wp_region_grow (W := wr) 10 [[], [], [0, 1], [2], [], [3, 4], [5], [], [], [6, 7]] [] (dWr (.slice (some ⟨gl, 0, none⟩) n0 cl) i ⟨gl, i, none⟩ (.slice (some ⟨g, o, none⟩) nh ch) m ⟨g, o + m, none⟩ (.slice (some ⟨b, oo, none⟩) nr cr) k ⟨b, oo + k * 3, none⟩) (by kernel_rfl) (by kernel_rfl) dWr_below ⟨?o0, ?o1, ?o2, ?o3, ?o4, ?o5, ?o6, ?o7, ?o8, ?o9, trivial⟩ ?fin
              case o0 =>
                refine growOne_of (pre := []) rfl ?_
                simp only [fillL, Act.put]
                intro f w' hb hp
                clear hp
                clear hb
                go_wp2_with fail
                exact ⟨Below.refl _ _, rfl, fun h => by simp at h⟩
              case o1 =>
                refine growOne_of (pre := []) rfl ?_
                simp only [fillL, Act.put]
                intro f w' hb hp
                clear hp
                clear hb
                go_wp2_with fail
                exact ⟨Below.refl _ _, rfl, fun h => by simp at h⟩
              case o2 =>
                refine growOne_of (pre := [0, 1]) rfl ?_
                simp only [fillL, Region.dstOf, List.getElem?_toArray, List.getElem?_cons_zero, List.getElem?_cons_succ, Option.bind_some, Act.put]
                intro f w' hb hp
                have h0 : f 0 = .slice (some ⟨gl, 0, none⟩) n0 cl := hp 0 (by decide)
                have h1 : f 1 = .int .i64 (i : Nat) := hp 1 (by decide)
                clear hp
                rw [h0, h1]
                clear h0 h1
                clear hb
                go_wp2_with fail
                exact ⟨Below.refl _ _, rfl, fun h => by simp at h⟩
              case o3 =>
                refine growOne_of (pre := [2]) rfl ?_
                simp only [fillL, Region.dstOf, List.getElem?_toArray, List.getElem?_cons_zero, List.getElem?_cons_succ, Option.bind_some, Act.put]
                intro f w' hb hp
                have h2 : f 2 = .pointer (some ⟨gl, i, none⟩) := hp 2 (by decide)
                have k0 := (hb.cell (p := ⟨gl, i, none⟩) hlw).trans kl
                clear hp
                rw [h2]
                clear h2
                clear hb
                go_wp2_with fail
                exact ⟨Below.refl _ _, rfl, fun h => by simp at h⟩
              case o4 =>
                refine growOne_of (pre := []) rfl ?_
                simp only [fillL, Act.put]
                intro f w' hb hp
                clear hp
                clear hb
                go_wp2_with fail
                exact ⟨Below.refl _ _, rfl, fun h => by simp at h⟩
              case o5 =>
                refine growOne_of (pre := [3, 4]) rfl ?_
                simp only [fillL, Region.dstOf, List.getElem?_toArray, List.getElem?_cons_zero, List.getElem?_cons_succ, Option.bind_some, Act.put]
                intro f w' hb hp
                have h3 : f 3 = .slice (some ⟨g, o, none⟩) nh ch := hp 3 (by decide)
                have h4 : f 4 = .int .i64 (m : Nat) := hp 4 (by decide)
                clear hp
                rw [h3, h4]
                clear h3 h4
                clear hb
                go_wp2_with fail
                exact ⟨Below.refl _ _, rfl, fun h => by simp at h⟩
              case o6 =>
                refine growOne_of (pre := [5]) rfl ?_
                simp only [fillL, Region.dstOf, List.getElem?_toArray, List.getElem?_cons_zero, List.getElem?_cons_succ, Option.bind_some, Act.put]
                intro f w' hb hp
                have h5 : f 5 = .pointer (some ⟨g, o + m, none⟩) := hp 5 (by decide)
                have k0 := (hb.cell (p := ⟨g, _, none⟩) hgw).trans kr
                clear hp
                rw [h5]
                clear h5
                clear hb
                go_wp2_with fail
                exact ⟨Below.refl _ _, rfl, fun h => by simp at h⟩
              case o7 =>
                refine growOne_of (pre := []) rfl ?_
                simp only [fillL, Act.put]
                intro f w' hb hp
                clear hp
                clear hb
                go_wp2_with fail
                exact ⟨Below.refl _ _, rfl, fun h => by simp at h⟩
              case o8 =>
                refine growOne_of (pre := []) rfl ?_
                simp only [fillL, Act.put]
                intro f w' hb hp
                clear hp hb
                go_wp2_with fail
                refine (rInt_any _ _).mono ?_
                rintro e w9 ⟨rfl, hb⟩
                have HO : Hid (growPost (dWr (.slice (some ⟨gl, 0, none⟩) n0 cl) i ⟨gl, i, none⟩ (.slice (some ⟨g, o, none⟩) nh ch) m ⟨g, o + m, none⟩ (.slice (some ⟨b, oo, none⟩) nr cr) k ⟨b, oo + k * 3, none⟩) [] 8 w' w9 (.agg #[.int .i64 1, .int .i64 99, .string ⟨#[]⟩])) := ⟨hb, rfl, fun h => by simp at h⟩
                clear hb
                go_wp2_with fail
                exact HO.out
              case o9 =>
                refine growOne_of (pre := [6, 7]) rfl ?_
                simp only [fillL, Region.dstOf, List.getElem?_toArray, List.getElem?_cons_zero, List.getElem?_cons_succ, Option.bind_some, Act.put]
                intro f w' hb hp
                have h6 : f 6 = .slice (some ⟨b, oo, none⟩) nr cr := hp 6 (by decide)
                have h7 : f 7 = .int .i64 (k : Nat) := hp 7 (by decide)
                clear hp
                rw [h6, h7]
                clear h6 h7
                clear hb
                go_wp2_with fail
                exact ⟨Below.refl _ _, rfl, fun h => by simp at h⟩
              case fin =>
                intro f w6 hb hd _
                have e0 : f 0 = .slice (some ⟨gl, 0, none⟩) n0 cl := hd 0 (by decide)
                have e1 : f 1 = .int .i64 (i : Nat) := hd 1 (by decide)
                have e2 : f 2 = .pointer (some ⟨gl, i, none⟩) := hd 2 (by decide)
                have e3 : f 3 = .slice (some ⟨g, o, none⟩) nh ch := hd 3 (by decide)
                have e4 : f 4 = .int .i64 (m : Nat) := hd 4 (by decide)
                have e5 : f 5 = .pointer (some ⟨g, o + m, none⟩) := hd 5 (by decide)
                have e6 : f 6 = .slice (some ⟨b, oo, none⟩) nr cr := hd 6 (by decide)
                have e7 : f 7 = .int .i64 (k : Nat) := hd 7 (by decide)
                have e8 : f 8 = .agg #[.int .i64 1, .int .i64 99, .string ⟨#[]⟩] := hd 8 (by decide)
                have e9 : f 9 = .pointer (some ⟨b, oo + k * 3, none⟩) := hd 9 (by decide)
                clear hd
                rw [show List.range 10 = [0, 1, 2, 3, 4, 5, 6, 7, 8, 9] from rfl]
                simp only [fillL, Region.dstOf, List.getElem?_toArray, List.getElem?_cons_zero, List.getElem?_cons_succ, Option.bind_some, Act.put]
                rw [e0, e1, e2, e3, e4, e5, e6, e7, e8, e9]
                clear e0 e1 e2 e3 e4 e5 e6 e7 e8 e9
                have hB6 : Blk w6 b tV cs := HX.out.2.1.below hb HX.out.2.1.lt
                have hI6 := HK.out.1.below hb
                have hG6 : Blk w6 g tR csG := HK.out.2.1.below hb HK.out.2.1.lt
                have hs0 : oo + k * 3 < cs.size := by have := HX.out.2.2; omega
                have hs1 : oo + k * 3 + 1 < cs.size := by have := HX.out.2.2; omega
                have hs2 : oo + k * 3 + 2 < cs.size := by have := HX.out.2.2; omega
                have t0 := (hB6.cell (oo + k * 3)).trans (Array.getElem?_eq_getElem hs0)
                have t1 := (hB6.cell (oo + k * 3 + 1)).trans (Array.getElem?_eq_getElem hs1)
                have t2 := (hB6.cell (oo + k * 3 + 2)).trans (Array.getElem?_eq_getElem hs2)
                have f0 := hB6.frozen (oo + k * 3)
                have f1 := hB6.frozen (oo + k * 3 + 1)
                have f2 := hB6.frozen (oo + k * 3 + 2)
                have hgb : g ≠ b := fun e => by subst e; exact absurd (blk_types hG6 hB6) (by decide)
                have c1 := hB6.set_ (oo + k * 3) (.int .i64 1)
                have c2 := c1.set_ (oo + k * 3 + 1) (.int .i64 99)
                have c3 := c2.set_ (oo + k * 3 + 2) (.string ⟨#[]⟩)
                have HN : Hid (WInv w4 gl csL n0 (((w6.setCell ⟨b, oo + k * 3, none⟩ (.int .i64 1)).setCell ⟨b, oo + k * 3 + 1, none⟩ (.int .i64 99)).setCell ⟨b, oo + k * 3 + 2, none⟩ (.string ⟨#[]⟩)) ∧ Blk (((w6.setCell ⟨b, oo + k * 3, none⟩ (.int .i64 1)).setCell ⟨b, oo + k * 3 + 1, none⟩ (.int .i64 99)).setCell ⟨b, oo + k * 3 + 2, none⟩ (.string ⟨#[]⟩)) g tR csG ∧ (0 < nr → ∃ b' o' cs', some (⟨b, oo, none⟩ : Addr) = some ⟨b', o', none⟩ ∧ w4.heap.size ≤ b' ∧ Blk (((w6.setCell ⟨b, oo + k * 3, none⟩ (.int .i64 1)).setCell ⟨b, oo + k * 3 + 1, none⟩ (.int .i64 99)).setCell ⟨b, oo + k * 3 + 2, none⟩ (.string ⟨#[]⟩)) b' tV cs' ∧ o' + nr * 3 ≤ cs'.size)) :=
                  ⟨((hI6.setV hB6 HX.out.1).setV c1 HX.out.1).setV c2 HX.out.1, ((hG6.far hgb _).far hgb _).far hgb _, fun _ => ⟨b, oo, _, rfl, HX.out.1, c3, by simpa using HX.out.2.2⟩⟩
                generalize cs[oo + k * 3] = x0 at *
                generalize cs[oo + k * 3 + 1] = x1 at *
                generalize cs[oo + k * 3 + 2] = x2 at *
                clear hB6 hI6 hG6 c1 c2 c3 hb hs0 hs1 hs2
                go_wp2_with fail
                go_roundw
                case rel => exact ⟨k + 1, by omega, by go_num, HN⟩
                case measure => simp [intOf]; omega
            · have hgs : o + m < csG.size := by
                rcases Nat.lt_or_ge (o + m) csG.size with h' | h'
                · exact h'
                · have h2 := HGR.out.1; rw [Array.getElem?_eq_none h'] at h2; cases h2
              have f0 := HK.out.2.1.frozen (o + m)
              have HN : Hid (WInv w4 gl csL n0 (wr.setCell ⟨g, o + m, none⟩ (.slice none 0 0))) := Lib.hid (HK.out.1.setH HK.out.2.1 HGR.out.2)
              have hkf : decide ((k : Int) < (nr : Int)) = false := by simp; omega
              go_wp2_with fail
              go_roundw
              case rel => exact ⟨m + 1, by omega, by go_num, HN⟩
              case measure => simp [intOf]; omega
        · have hmf : decide ((m : Int) < (nh : Int)) = false := by simp; omega
          go_wp2_with fail
          go_roundw
          case rel => exact ⟨i + 1, by omega, by go_num, HJ⟩
          case measure => simp [intOf]; omega
    · have hif : decide ((i : Int) < (n0 : Int)) = false := by simp; omega
      have hlw := HI.out.low
      have S20 := Lib.hid (And.intro (SB.out.1.below hlw hlw.size) (And.intro (SB.out.2.1.below hlw hlw.size) (And.intro (SB.out.2.2.1.below hlw hlw.size) (And.intro (SB.out.2.2.2.1.below hlw hlw.size) (And.intro (SB.out.2.2.2.2.1.thn hlw) (thn SB.out.2.2.2.2.2 hlw))))))
      clear hlw
      have haa : decide (a = a) = true := by simp
      have hbb : decide (b = b) = true := by simp
      go_wp2_with fail
      refine (REqual_nice A1 A3 c1 c3 12 12 a a wr S20.out.1 S20.out.2.2.1 Na.out.1 Na.out.1 (by omega)).mono ?_
      rintro e w21 ⟨rfl, hb⟩
      have S21 := Lib.hid (And.intro (S20.out.2.1.below hb hb.size) (And.intro (S20.out.2.2.2.1.below hb hb.size) (And.intro (S20.out.2.2.2.2.1.thn hb) (thn S20.out.2.2.2.2.2 hb))))
      clear hb
      go_wp2_with fail
      refine (REqual_nice A2 A4 c2 c4 12 12 b b w21 S21.out.1 S21.out.2.1 Nb.out.1 Nb.out.1 (by omega)).mono ?_
      rintro e w22 ⟨rfl, hb⟩
      have S22 := Lib.hid (And.intro (S21.out.2.2.1.thn hb) (thn S21.out.2.2.2 hb))
      clear hb
      go_wp2_with fail
      refine (awake_any w22 S22.out.1).mono ?_
      rintro e w23 ⟨rfl, hb⟩
      have S23 := Lib.hid (thn S22.out.2 hb)
      clear hb
      go_wp2_with fail
      go_ret
      exact ⟨rfl, S23.out⟩
end Go.Proofs.YtapnnheggjahlaaGreatDoor
