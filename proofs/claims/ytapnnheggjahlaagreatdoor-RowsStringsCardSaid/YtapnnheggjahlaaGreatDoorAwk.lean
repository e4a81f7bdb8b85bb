/-
  CONTRACTS: the law's awake.
-/
import Derived.Test.YtapnnheggjahlaaGreatDoorGI
import Derived.Test.YtapnnheggjahlaaGreatDoorGK
namespace Go.Proofs.YtapnnheggjahlaaGreatDoor
open Go.RowKit

theorem own_plain {w : World} {base : Nat} {v : Value} {r : List V} (h : OwnR w base v r) : ∃ A c, v = .slice A r.length c ∧ Plain A ∧ VReads w w.heap.size A r := by
  obtain ⟨A, c, e, _, _, hr, _⟩ := own_reads h
  subst e
  refine ⟨A, c, rfl, fun ad hA => ?_, hr⟩
  subst hA
  rcases h.2 with ⟨h1, _⟩ | ⟨g, cap, cur, h1, _⟩
  · cases h1
  · cases h1; exact ⟨_, _, rfl⟩
theorem OwnRs.lreads {w : World} {base g : Nat} {T : TypeId} {vs : List Value} {S : List (List V)} (h : OwnRs w base vs S) (hb : Blk w g T vs.toArray) : LReads w w.heap.size (some ⟨g, 0, none⟩) S := fun _ =>
  ⟨g, 0, rfl, hb.lt, fun i r hi => by
    have hlt : i < vs.length := by rw [h.1]; exact (List.getElem?_eq_some_iff.1 hi).1
    obtain ⟨A, c, e, hp, hv⟩ := own_plain (h.2 i vs[i] r (by simp [hlt]) hi)
    exact ⟨A, c, by rw [Nat.zero_add, hb.cell i]; simp [hlt, e], hp, hv⟩⟩
theorem lnew {w : World} {base : Nat} {vs : List Value} {S : List (List V)} (h : OwnRs w base vs S) (T : TypeId) : LReads (w.alloc (.cells vs.toArray T)) (w.alloc (.cells vs.toArray T)).heap.size (some ⟨w.heap.size, 0, none⟩) S :=
  (h.below (al (Below.refl _ _) _)).lreads (Blk.new w T vs.toArray)
theorem OutR.lreads {w w' : World} {v : Value} {R : List (List V)} (h : OutR w w' v R) : ∃ A c, v = .slice A R.length c ∧ LReads w' w'.heap.size A R := by
  obtain ⟨vs, ho, hrs⟩ := h
  obtain ⟨A, c, rfl⟩ := own_slice ho
  refine ⟨A, c, rfl, fun h0 => ?_⟩
  obtain ⟨ad, hA, hlt, hc⟩ := (Reads.of_own ho).2 h0
  subst hA
  have hp : ∃ b, ad = ⟨b, 0, none⟩ := by
    rcases ho.2 with ⟨h1, _⟩ | ⟨g, cap, cur, h1, _⟩
    · cases h1
    · cases h1; exact ⟨_, rfl⟩
  obtain ⟨b, rfl⟩ := hp
  refine ⟨b, 0, rfl, hlt, fun i r hi => ?_⟩
  have hl2 : i < vs.length := by rw [hrs.1]; exact (List.getElem?_eq_some_iff.1 hi).1
  obtain ⟨Ar, cr, e, hp, hv⟩ := own_plain (hrs.2 i vs[i] r (by simp [hl2]) hi)
  have := hc i vs[i] (by simp [hl2])
  rw [addN, e] at this
  exact ⟨Ar, cr, this, hp, hv⟩
theorem row_new (l : List Int) (T : TypeId) (w : World) (hl : l.length ≤ 1000) :
    Calls Tryz.prog 60 #[.slice (some ⟨w.heap.size, 0, none⟩) l.length l.length] (w.alloc (.cells (l.map (Value.int .i64)).toArray T)) fun e w' => ∃ v, e = .returned v ∧ OwnR w' 0 v (l.map intV) ∧ Below w.heap.size w w' :=
  (row_any w.heap.size l.length T l _ (Blk.new w T _) hl).mono fun _ _ ⟨v, h1, h2, h3⟩ => ⟨v, h1, own_weaker h2 (Nat.zero_le _), thn (al (Below.refl _ _) _) h3⟩
theorem row_at (l : List Int) (g : Nat) (T : TypeId) (w : World) (hg : g = w.heap.size) (hl : l.length ≤ 1000) :
    Calls Tryz.prog 60 #[.slice (some ⟨g, 0, none⟩) l.length l.length] (w.alloc (.cells (l.map (Value.int .i64)).toArray T)) fun e w' => ∃ v, e = .returned v ∧ OwnR w' 0 v (l.map intV) ∧ Below w.heap.size w w' := by
  subst hg
  exact row_new l T w hl
theorem REqual_same (A A' : Option Addr) (c c' : Nat) (a : List (List V)) (w : World) (hr : LReads w w.heap.size A a) (hr' : LReads w w.heap.size A' a) (hf : InL a) :
    Calls Tryz.prog 27 #[.slice A a.length c, .slice A' a.length c'] w fun e w' => e = .returned (.bool true) ∧ Below w.heap.size w w' :=
  (REqual_any A A' c c' a a w hr hr' (fun r h => ⟨(hf.2 r h).1, fun v hv => ((hf.2 r h).2 v hv).1⟩) (fun r h => ⟨(hf.2 r h).1, fun v hv => ((hf.2 r h).2 v hv).1⟩) hf.1).mono fun e w' ⟨h1, h2⟩ => ⟨by rw [h1]; simp, h2⟩
abbrev iL (L : List (List Int)) : List (List V) := L.map fun r => r.map intV
theorem iL_in (L : List (List Int)) (h1 : L.length ≤ 1000) (h2 : (L.all fun r => decide (r.length ≤ 16) && r.all fun n => decide (-100 ≤ n) && decide (n ≤ 100)) = true) : InL (iL L) := by
  simp only [List.all_eq_true, Bool.and_eq_true, decide_eq_true_eq] at h2
  refine ⟨by simp [maxLen]; omega, fun r hr => ?_⟩
  obtain ⟨s, hs, rfl⟩ := List.mem_map.1 hr
  refine ⟨by have := (h2 s hs).1; simp [maxLen]; omega, fun v hv => ?_⟩
  obtain ⟨n, hn, rfl⟩ := List.mem_map.1 hv
  have := (h2 s hs).2 n hn
  exact ⟨by simp [intV, ByteArray.size, maxLen], by simp only [intV, I64]; omega⟩


theorem c1 : cnt (rowS [intV 1]) (iL [[1], [3]]) = 1 := by decide +kernel
theorem c2 : cnt (rowS [intV 2]) (iL [[1], [3]]) = 0 := by decide +kernel
theorem str_aw : strRes (iL [[1, 2], []]) = .tuple #[.string ⟨#[40, 49, 44, 32, 50, 41, 10, 40, 41, 10]⟩, .int .i64 0] := by
  have e : strR (iL [[1, 2], []]) = [40, 49, 44, 32, 50, 41, 10, 40, 41, 10] := by decide +kernel
  unfold strRes
  rw [e]
  rfl
theorem n1 : (iL [[1], [1], [2]]).count [intV 1] = 2 := by decide +kernel
theorem n2 : (iL [[1], [1], [2]]).count [intV 2] = 1 := by decide +kernel
theorem perm_aw : (iL [[1, 2], [1, 1], [2, 1]]).Perm (iL [[1, 2], [2, 1], [1, 1]]) := List.Perm.map _ (by decide)
theorem p1 : (iL [[1, 2], [1, 1], [2, 1]]).Pairwise fun x y => leC (cmpKR [(1,true)]) x y = true := by decide
theorem p2 : (iL [[1], [1], [2]]).Pairwise fun x y => leC cmpR x y = true := by decide
theorem can_aw : canon (iL [[1], [1], [2]]) = iL [[1], [1], [2]] := (srtC_only cmpR_WO cmpR_eq (.refl _) p2).symm
theorem hds_aw : hdsR (iL [[1], [1], [2]]) = iL [[1], [2]] := by
  simp [iL, hdsR_cons, hdsR_nil, List.dropWhile, intV]

theorem both_aw : chooseR (fun n x => fBoth true n (cnt (rowS x) (iL [[1], [3]]))) (iL [[1], [1], [2]]) = iL [[1]] := by
  unfold chooseR
  rw [can_aw, hds_aw]
  simp only [iL, List.map_cons, List.map_nil, List.flatMap_cons, List.flatMap_nil]
  rw [show List.count [intV 1] [[intV 1], [intV 1], [intV 2]] = 2 from n1, show List.count [intV 2] [[intV 1], [intV 1], [intV 2]] = 1 from n2, show cnt (rowS [intV 1]) [[intV 1], [intV 3]] = 1 from c1, show cnt (rowS [intV 2]) [[intV 1], [intV 3]] = 0 from c2]
  rfl
theorem minus_aw : chooseR (fun n x => fMinus true n (cnt (rowS x) (iL [[1], [3]]))) (iL [[1], [1], [2]]) = iL [[1], [2]] := by
  unfold chooseR
  rw [can_aw, hds_aw]
  simp only [iL, List.map_cons, List.map_nil, List.flatMap_cons, List.flatMap_nil]
  rw [show List.count [intV 1] [[intV 1], [intV 1], [intV 2]] = 2 from n1, show List.count [intV 2] [[intV 1], [intV 1], [intV 2]] = 1 from n2, show cnt (rowS [intV 1]) [[intV 1], [intV 3]] = 1 from c1, show cnt (rowS [intV 2]) [[intV 1], [intV 3]] = 0 from c2]
  rfl
theorem minus2_aw : chooseR (fun n x => fMinus false n (cnt (rowS x) (iL [[1], [3]]))) (iL [[1], [1], [2]]) = iL [[2]] := by
  unfold chooseR
  rw [can_aw, hds_aw]
  simp only [iL, List.map_cons, List.map_nil, List.flatMap_cons, List.flatMap_nil]
  rw [show List.count [intV 1] [[intV 1], [intV 1], [intV 2]] = 2 from n1, show List.count [intV 2] [[intV 1], [intV 1], [intV 2]] = 1 from n2, show cnt (rowS [intV 1]) [[intV 1], [intV 3]] = 1 from c1, show cnt (rowS [intV 2]) [[intV 1], [intV 3]] = 0 from c2]
  rfl
theorem ord_aw : srtC (cmpKR [(1, true)]) (iL [[1, 2], [2, 1], [1, 1]]) = iL [[1, 2], [1, 1], [2, 1]] := (srtC_only (cmpKR_WO _) (fun a b h => cmpKR_eq a b h) perm_aw p1).symm
theorem kone_new (w : World) (m : Nat) (d : Bool) (T : TypeId) : KReads (w.alloc (.cells #[.int .i64 (m : Int), .bool d] T)) (w.alloc (.cells #[.int .i64 (m : Int), .bool d] T)).heap.size (some ⟨w.heap.size, 0, none⟩) (kI [(m, d)]) := fun _ =>
  ⟨w.heap.size, 0, rfl, (Blk.new w T _).lt, fun i k hi => by
    match i, hi with
    | 0, hi => cases hi; exact ⟨(Blk.new w T #[.int .i64 (m : Int), .bool d]).cell 0, (Blk.new w T #[.int .i64 (m : Int), .bool d]).cell 1⟩⟩
theorem kread_at {w : World} {B g g' : Nat} {ks : List (Int × Bool)} (h : KReads w B (some ⟨g, 0, none⟩) ks) (e : g' = g) : KReads w B (some ⟨g', 0, none⟩) ks := by
  subst e; exact h
set_option maxHeartbeats 8000000 in
theorem awake_any (w : World) (hG : G w) :
    Calls Tryz.prog 22 #[] w fun e w' => e = .returned (.bool true) ∧ Below w.heap.size w w' := by
  have HG := Lib.hid hG
  clear hG
  go_enter Tryz.func22, Tryz.ntmps22
  go_wp2_with fail
  have HB := Lib.hid (Below.refl w.heap.size w)
  refine (row_at [1] _ _ _ (by simp) (by decide)).mono ?_
  rintro e w1 ⟨v1, rfl, ho, hb⟩
  obtain ⟨a1, c1, rfl⟩ := own_slice ho
  have S1 := Lib.hid (And.intro ((OwnRs.nil w1 0).snoc ho) hb)
  clear ho hb
  go_wp2_with fail
  refine (row_at [1] _ _ _ (by simp) (by decide)).mono ?_
  rintro e w2 ⟨v2, rfl, ho, hb⟩
  obtain ⟨a2, c2, rfl⟩ := own_slice ho
  have S2 := Lib.hid (And.intro ((S1.out.1.below hb).snoc ho) (thn S1.out.2 hb))
  clear ho hb S1
  go_wp2_with fail
  refine (row_at [2] _ _ _ (by simp) (by decide)).mono ?_
  rintro e w3 ⟨v3, rfl, ho, hb⟩
  obtain ⟨a3, c3, rfl⟩ := own_slice ho
  have S3 := Lib.hid (And.intro ((S2.out.1.below hb).snoc ho) (thn S2.out.2 hb))
  clear ho hb S2
  go_wp2_with fail
  have hb := al S3.out.2 (.cells #[.slice a1 1 c1, .slice a2 1 c2, .slice a3 1 c3] 34)
  replace HG := Lib.hid (HG.out.thn hb)
  replace HB := Lib.hid (thn HB.out hb)
  have X1 := Lib.hid (show LReads (w3.alloc (.cells #[.slice a1 1 c1, .slice a2 1 c2, .slice a3 1 c3] 34)) (w3.alloc (.cells #[.slice a1 1 c1, .slice a2 1 c2, .slice a3 1 c3] 34)).heap.size (some ⟨w3.heap.size, 0, none⟩) (iL [[1], [1], [2]]) from lnew S3.out.1 _)
  clear hb S3
  refine (row_at [1] _ _ _ (by simp) (by decide)).mono ?_
  rintro e w4 ⟨v4, rfl, ho, hb⟩
  obtain ⟨a4, c4, rfl⟩ := own_slice ho
  have S4 := Lib.hid (And.intro ((OwnRs.nil w4 0).snoc ho) hb)
  clear ho hb
  go_wp2_with fail
  refine (row_at [3] _ _ _ (by simp) (by decide)).mono ?_
  rintro e w5 ⟨v5, rfl, ho, hb⟩
  obtain ⟨a5, c5, rfl⟩ := own_slice ho
  have S5 := Lib.hid (And.intro ((S4.out.1.below hb).snoc ho) (thn S4.out.2 hb))
  clear ho hb S4
  go_wp2_with fail
  have hb := al S5.out.2 (.cells #[.slice a4 1 c4, .slice a5 1 c5] 34)
  replace HG := Lib.hid (HG.out.thn hb)
  replace HB := Lib.hid (thn HB.out hb)
  replace X1 := Lib.hid (X1.out.below hb hb.size)
  have X2 := Lib.hid (show LReads (w5.alloc (.cells #[.slice a4 1 c4, .slice a5 1 c5] 34)) (w5.alloc (.cells #[.slice a4 1 c4, .slice a5 1 c5] 34)).heap.size (some ⟨w5.heap.size, 0, none⟩) (iL [[1], [3]]) from lnew S5.out.1 _)
  clear hb S5
  refine (Both_ok _ _ 3 2 (iL [[1], [1], [2]]) (iL [[1], [3]]) true _ HG.out X1.out X2.out (iL_in _ (by decide) (by decide)) (iL_in _ (by decide) (by decide)) (by decide)).mono ?_
  rintro e w6 ⟨v6, rfl, ho, hb⟩
  rw [both_aw] at ho
  obtain ⟨a6, c6, rfl, hl⟩ := ho.lreads
  replace HG := Lib.hid (HG.out.thn hb)
  replace HB := Lib.hid (thn HB.out hb)
  replace X1 := Lib.hid (X1.out.below hb hb.size)
  replace X2 := Lib.hid (X2.out.below hb hb.size)
  have Y1 := Lib.hid hl
  clear ho hb hl
  go_wp2_with fail
  refine (Minus_ok _ _ 3 2 (iL [[1], [1], [2]]) (iL [[1], [3]]) true _ HG.out X1.out X2.out (iL_in _ (by decide) (by decide)) (iL_in _ (by decide) (by decide)) (by decide)).mono ?_
  rintro e w7 ⟨v7, rfl, ho, hb⟩
  rw [minus_aw] at ho
  obtain ⟨a7, c7, rfl, hl⟩ := ho.lreads
  replace HG := Lib.hid (HG.out.thn hb)
  replace HB := Lib.hid (thn HB.out hb)
  replace X1 := Lib.hid (X1.out.below hb hb.size)
  replace X2 := Lib.hid (X2.out.below hb hb.size)
  replace Y1 := Lib.hid (Y1.out.below hb hb.size)
  have Y2 := Lib.hid hl
  clear ho hb hl
  go_wp2_with fail
  refine (Minus_ok _ _ 3 2 (iL [[1], [1], [2]]) (iL [[1], [3]]) false _ HG.out X1.out X2.out (iL_in _ (by decide) (by decide)) (iL_in _ (by decide) (by decide)) (by decide)).mono ?_
  rintro e w8 ⟨v8, rfl, ho, hb⟩
  rw [minus2_aw] at ho
  obtain ⟨a8, c8, rfl, hl⟩ := ho.lreads
  replace HG := Lib.hid (HG.out.thn hb)
  replace HB := Lib.hid (thn HB.out hb)
  replace X1 := Lib.hid (X1.out.below hb hb.size)
  replace X2 := Lib.hid (X2.out.below hb hb.size)
  replace Y1 := Lib.hid (Y1.out.below hb hb.size)
  replace Y2 := Lib.hid (Y2.out.below hb hb.size)
  have Y3 := Lib.hid hl
  clear ho hb hl
  go_wp2_with fail
  refine (row_at [1, 2] _ _ _ (by simp) (by decide)).mono ?_
  rintro e w9 ⟨v9, rfl, ho, hb⟩
  obtain ⟨a9, c9, rfl⟩ := own_slice ho
  have S9 := Lib.hid (And.intro ((OwnRs.nil w9 0).snoc ho) hb)
  clear ho hb
  go_wp2_with fail
  refine (row_at [2, 1] _ _ _ (by simp) (by decide)).mono ?_
  rintro e w10 ⟨v10, rfl, ho, hb⟩
  obtain ⟨a10, c10, rfl⟩ := own_slice ho
  have S10 := Lib.hid (And.intro ((S9.out.1.below hb).snoc ho) (thn S9.out.2 hb))
  clear ho hb S9
  go_wp2_with fail
  refine (row_at [1, 1] _ _ _ (by simp) (by decide)).mono ?_
  rintro e w11 ⟨v11, rfl, ho, hb⟩
  obtain ⟨a11, c11, rfl⟩ := own_slice ho
  have S11 := Lib.hid (And.intro ((S10.out.1.below hb).snoc ho) (thn S10.out.2 hb))
  clear ho hb S10
  go_wp2_with fail
  have hb := al S11.out.2 (.cells #[.slice a9 2 c9, .slice a10 2 c10, .slice a11 2 c11] 34)
  replace HG := Lib.hid (HG.out.thn hb)
  replace HB := Lib.hid (thn HB.out hb)
  replace X1 := Lib.hid (X1.out.below hb hb.size)
  replace X2 := Lib.hid (X2.out.below hb hb.size)
  replace Y1 := Lib.hid (Y1.out.below hb hb.size)
  replace Y2 := Lib.hid (Y2.out.below hb hb.size)
  replace Y3 := Lib.hid (Y3.out.below hb hb.size)
  have X3 := Lib.hid (show LReads (w11.alloc (.cells #[.slice a9 2 c9, .slice a10 2 c10, .slice a11 2 c11] 34)) (w11.alloc (.cells #[.slice a9 2 c9, .slice a10 2 c10, .slice a11 2 c11] 34)).heap.size (some ⟨w11.heap.size, 0, none⟩) (iL [[1, 2], [2, 1], [1, 1]]) from lnew S11.out.1 _)
  clear hb S11
  have hb := al (Below.refl (w11.alloc (.cells #[.slice a9 2 c9, .slice a10 2 c10, .slice a11 2 c11] 34)).heap.size (w11.alloc (.cells #[.slice a9 2 c9, .slice a10 2 c10, .slice a11 2 c11] 34))) (.cells #[.int .i64 1, .bool true] 61)
  replace HG := Lib.hid (HG.out.thn hb)
  replace HB := Lib.hid (thn HB.out hb)
  replace X1 := Lib.hid (X1.out.below hb hb.size)
  replace X2 := Lib.hid (X2.out.below hb hb.size)
  replace Y1 := Lib.hid (Y1.out.below hb hb.size)
  replace Y2 := Lib.hid (Y2.out.below hb hb.size)
  replace Y3 := Lib.hid (Y3.out.below hb hb.size)
  replace X3 := Lib.hid (X3.out.below hb hb.size)
  have hk := Lib.hid (kone_new (w11.alloc (.cells #[.slice a9 2 c9, .slice a10 2 c10, .slice a11 2 c11] 34)) 1 true 61)
  clear hb
  refine (Ordered_ok _ 3 (iL [[1, 2], [2, 1], [1, 1]]) _ 1 [(1, true)] _ X3.out (iL_in _ (by decide) (by decide)) (by decide) (by decide) (kread_at hk.out (by simp)) (by decide) (by decide)).mono ?_
  rintro e w12 ⟨g12, vs, rfl, hg, hbl, ho, hb⟩
  rw [ord_aw] at ho
  have Y4 := Lib.hid (ho.lreads hbl)
  replace HG := Lib.hid (HG.out.thn hb)
  replace HB := Lib.hid (thn HB.out hb)
  replace X1 := Lib.hid (X1.out.below hb hb.size)
  replace X2 := Lib.hid (X2.out.below hb hb.size)
  replace Y1 := Lib.hid (Y1.out.below hb hb.size)
  replace Y2 := Lib.hid (Y2.out.below hb hb.size)
  replace Y3 := Lib.hid (Y3.out.below hb hb.size)
  replace X3 := Lib.hid (X3.out.below hb hb.size)
  clear ho hb hbl hg
  go_wp2_with fail
  refine (row_at [1, 2] _ _ _ (by simp) (by decide)).mono ?_
  rintro e w13 ⟨v13, rfl, ho, hb⟩
  obtain ⟨a13, c13, rfl⟩ := own_slice ho
  have S := Lib.hid (And.intro (((OwnRs.nil w13 0).snoc ho).snoc (show OwnR w13 0 (.slice none 0 0) [] from ⟨rfl, .inl ⟨rfl, rfl⟩⟩)) hb)
  clear ho hb
  go_wp2_with fail
  have hb := al S.out.2 (.cells #[.slice a13 2 c13, .slice none 0 0] 34)
  replace HG := Lib.hid (HG.out.thn hb)
  replace HB := Lib.hid (thn HB.out hb)
  replace X1 := Lib.hid (X1.out.below hb hb.size)
  replace X2 := Lib.hid (X2.out.below hb hb.size)
  replace Y1 := Lib.hid (Y1.out.below hb hb.size)
  replace Y2 := Lib.hid (Y2.out.below hb hb.size)
  replace Y3 := Lib.hid (Y3.out.below hb hb.size)
  replace X3 := Lib.hid (X3.out.below hb hb.size)
  replace Y4 := Lib.hid (Y4.out.below hb hb.size)
  have X4 := Lib.hid (show LReads (w13.alloc (.cells #[.slice a13 2 c13, .slice none 0 0] 34)) (w13.alloc (.cells #[.slice a13 2 c13, .slice none 0 0] 34)).heap.size (some ⟨w13.heap.size, 0, none⟩) (iL [[1, 2], []]) from lnew S.out.1 _)
  clear hb S
  refine (StringR_ok _ 2 (iL [[1, 2], []]) _ HG.out X4.out (iL_in _ (by decide) (by decide)) (by decide)).mono ?_
  rintro e w14 ⟨rfl, hb⟩
  rw [str_aw]
  replace HG := Lib.hid (HG.out.thn hb)
  replace HB := Lib.hid (thn HB.out hb)
  replace X1 := Lib.hid (X1.out.below hb hb.size)
  replace X2 := Lib.hid (X2.out.below hb hb.size)
  replace Y1 := Lib.hid (Y1.out.below hb hb.size)
  replace Y2 := Lib.hid (Y2.out.below hb hb.size)
  replace Y3 := Lib.hid (Y3.out.below hb hb.size)
  replace X3 := Lib.hid (X3.out.below hb hb.size)
  replace Y4 := Lib.hid (Y4.out.below hb hb.size)
  clear hb X4
  go_wp2_with fail
  refine (row_at [1] _ _ _ (by simp) (by decide)).mono ?_
  rintro e w15 ⟨v15, rfl, ho, hb⟩
  obtain ⟨a15, c15, rfl⟩ := own_slice ho
  have S15 := Lib.hid (And.intro ((OwnRs.nil w15 0).snoc ho) hb)
  clear ho hb
  go_wp2_with fail
  have hb := al S15.out.2 (.cells #[.slice a15 1 c15] 34)
  replace HG := Lib.hid (HG.out.thn hb)
  replace HB := Lib.hid (thn HB.out hb)
  replace X1 := Lib.hid (X1.out.below hb hb.size)
  replace X2 := Lib.hid (X2.out.below hb hb.size)
  replace Y1 := Lib.hid (Y1.out.below hb hb.size)
  replace Y2 := Lib.hid (Y2.out.below hb hb.size)
  replace Y3 := Lib.hid (Y3.out.below hb hb.size)
  replace X3 := Lib.hid (X3.out.below hb hb.size)
  replace Y4 := Lib.hid (Y4.out.below hb hb.size)
  have Z := Lib.hid (show LReads (w15.alloc (.cells #[.slice a15 1 c15] 34)) (w15.alloc (.cells #[.slice a15 1 c15] 34)).heap.size (some ⟨w15.heap.size, 0, none⟩) (iL [[1]]) from lnew S15.out.1 _)
  clear hb S15
  refine (REqual_same _ _ _ 1 (iL [[1]]) _ Y1.out Z.out (iL_in _ (by decide) (by decide))).mono ?_
  rintro e w16 ⟨rfl, hb⟩
  clear Z
  replace HG := Lib.hid (HG.out.thn hb)
  replace HB := Lib.hid (thn HB.out hb)
  replace X1 := Lib.hid (X1.out.below hb hb.size)
  replace X2 := Lib.hid (X2.out.below hb hb.size)
  replace Y1 := Lib.hid (Y1.out.below hb hb.size)
  replace Y2 := Lib.hid (Y2.out.below hb hb.size)
  replace Y3 := Lib.hid (Y3.out.below hb hb.size)
  replace X3 := Lib.hid (X3.out.below hb hb.size)
  replace Y4 := Lib.hid (Y4.out.below hb hb.size)
  clear hb
  go_wp2_with fail
  refine (row_at [1] _ _ _ (by simp) (by decide)).mono ?_
  rintro e w17 ⟨v17, rfl, ho, hb⟩
  obtain ⟨a17, c17, rfl⟩ := own_slice ho
  have S17 := Lib.hid (And.intro ((OwnRs.nil w17 0).snoc ho) hb)
  clear ho hb
  go_wp2_with fail
  refine (row_at [2] _ _ _ (by simp) (by decide)).mono ?_
  rintro e w18 ⟨v18, rfl, ho, hb⟩
  obtain ⟨a18, c18, rfl⟩ := own_slice ho
  have S18 := Lib.hid (And.intro ((S17.out.1.below hb).snoc ho) (thn S17.out.2 hb))
  clear ho hb S17
  go_wp2_with fail
  have hb := al S18.out.2 (.cells #[.slice a17 1 c17, .slice a18 1 c18] 34)
  replace HG := Lib.hid (HG.out.thn hb)
  replace HB := Lib.hid (thn HB.out hb)
  replace X1 := Lib.hid (X1.out.below hb hb.size)
  replace X2 := Lib.hid (X2.out.below hb hb.size)
  replace Y1 := Lib.hid (Y1.out.below hb hb.size)
  replace Y2 := Lib.hid (Y2.out.below hb hb.size)
  replace Y3 := Lib.hid (Y3.out.below hb hb.size)
  replace X3 := Lib.hid (X3.out.below hb hb.size)
  replace Y4 := Lib.hid (Y4.out.below hb hb.size)
  have Z := Lib.hid (show LReads (w18.alloc (.cells #[.slice a17 1 c17, .slice a18 1 c18] 34)) (w18.alloc (.cells #[.slice a17 1 c17, .slice a18 1 c18] 34)).heap.size (some ⟨w18.heap.size, 0, none⟩) (iL [[1], [2]]) from lnew S18.out.1 _)
  clear hb S18
  refine (REqual_same _ _ _ 2 (iL [[1], [2]]) _ Y2.out Z.out (iL_in _ (by decide) (by decide))).mono ?_
  rintro e w19 ⟨rfl, hb⟩
  clear Z
  replace HG := Lib.hid (HG.out.thn hb)
  replace HB := Lib.hid (thn HB.out hb)
  replace X1 := Lib.hid (X1.out.below hb hb.size)
  replace X2 := Lib.hid (X2.out.below hb hb.size)
  replace Y1 := Lib.hid (Y1.out.below hb hb.size)
  replace Y2 := Lib.hid (Y2.out.below hb hb.size)
  replace Y3 := Lib.hid (Y3.out.below hb hb.size)
  replace X3 := Lib.hid (X3.out.below hb hb.size)
  replace Y4 := Lib.hid (Y4.out.below hb hb.size)
  clear hb
  go_wp2_with fail
  refine (row_at [2] _ _ _ (by simp) (by decide)).mono ?_
  rintro e w20 ⟨v20, rfl, ho, hb⟩
  obtain ⟨a20, c20, rfl⟩ := own_slice ho
  have S20 := Lib.hid (And.intro ((OwnRs.nil w20 0).snoc ho) hb)
  clear ho hb
  go_wp2_with fail
  have hb := al S20.out.2 (.cells #[.slice a20 1 c20] 34)
  replace HG := Lib.hid (HG.out.thn hb)
  replace HB := Lib.hid (thn HB.out hb)
  replace X1 := Lib.hid (X1.out.below hb hb.size)
  replace X2 := Lib.hid (X2.out.below hb hb.size)
  replace Y1 := Lib.hid (Y1.out.below hb hb.size)
  replace Y2 := Lib.hid (Y2.out.below hb hb.size)
  replace Y3 := Lib.hid (Y3.out.below hb hb.size)
  replace X3 := Lib.hid (X3.out.below hb hb.size)
  replace Y4 := Lib.hid (Y4.out.below hb hb.size)
  have Z := Lib.hid (show LReads (w20.alloc (.cells #[.slice a20 1 c20] 34)) (w20.alloc (.cells #[.slice a20 1 c20] 34)).heap.size (some ⟨w20.heap.size, 0, none⟩) (iL [[2]]) from lnew S20.out.1 _)
  clear hb S20
  refine (REqual_same _ _ _ 1 (iL [[2]]) _ Y3.out Z.out (iL_in _ (by decide) (by decide))).mono ?_
  rintro e w21 ⟨rfl, hb⟩
  clear Z
  replace HG := Lib.hid (HG.out.thn hb)
  replace HB := Lib.hid (thn HB.out hb)
  replace X1 := Lib.hid (X1.out.below hb hb.size)
  replace X2 := Lib.hid (X2.out.below hb hb.size)
  replace Y1 := Lib.hid (Y1.out.below hb hb.size)
  replace Y2 := Lib.hid (Y2.out.below hb hb.size)
  replace Y3 := Lib.hid (Y3.out.below hb hb.size)
  replace X3 := Lib.hid (X3.out.below hb hb.size)
  replace Y4 := Lib.hid (Y4.out.below hb hb.size)
  clear hb
  go_wp2_with fail
  refine (row_at [1, 2] _ _ _ (by simp) (by decide)).mono ?_
  rintro e w22 ⟨v22, rfl, ho, hb⟩
  obtain ⟨a22, c22, rfl⟩ := own_slice ho
  have S22 := Lib.hid (And.intro ((OwnRs.nil w22 0).snoc ho) hb)
  clear ho hb
  go_wp2_with fail
  refine (row_at [1, 1] _ _ _ (by simp) (by decide)).mono ?_
  rintro e w23 ⟨v23, rfl, ho, hb⟩
  obtain ⟨a23, c23, rfl⟩ := own_slice ho
  have S23 := Lib.hid (And.intro ((S22.out.1.below hb).snoc ho) (thn S22.out.2 hb))
  clear ho hb S22
  go_wp2_with fail
  refine (row_at [2, 1] _ _ _ (by simp) (by decide)).mono ?_
  rintro e w24 ⟨v24, rfl, ho, hb⟩
  obtain ⟨a24, c24, rfl⟩ := own_slice ho
  have S24 := Lib.hid (And.intro ((S23.out.1.below hb).snoc ho) (thn S23.out.2 hb))
  clear ho hb S23
  go_wp2_with fail
  have hb := al S24.out.2 (.cells #[.slice a22 2 c22, .slice a23 2 c23, .slice a24 2 c24] 34)
  replace HG := Lib.hid (HG.out.thn hb)
  replace HB := Lib.hid (thn HB.out hb)
  replace X1 := Lib.hid (X1.out.below hb hb.size)
  replace X2 := Lib.hid (X2.out.below hb hb.size)
  replace Y1 := Lib.hid (Y1.out.below hb hb.size)
  replace Y2 := Lib.hid (Y2.out.below hb hb.size)
  replace Y3 := Lib.hid (Y3.out.below hb hb.size)
  replace X3 := Lib.hid (X3.out.below hb hb.size)
  replace Y4 := Lib.hid (Y4.out.below hb hb.size)
  have Z := Lib.hid (show LReads (w24.alloc (.cells #[.slice a22 2 c22, .slice a23 2 c23, .slice a24 2 c24] 34)) (w24.alloc (.cells #[.slice a22 2 c22, .slice a23 2 c23, .slice a24 2 c24] 34)).heap.size (some ⟨w24.heap.size, 0, none⟩) (iL [[1, 2], [1, 1], [2, 1]]) from lnew S24.out.1 _)
  clear hb S24
  refine (REqual_same _ _ _ 3 (iL [[1, 2], [1, 1], [2, 1]]) _ Y4.out Z.out (iL_in _ (by decide) (by decide))).mono ?_
  rintro e w25 ⟨rfl, hb⟩
  clear Z
  replace HG := Lib.hid (HG.out.thn hb)
  replace HB := Lib.hid (thn HB.out hb)
  replace X1 := Lib.hid (X1.out.below hb hb.size)
  replace X2 := Lib.hid (X2.out.below hb hb.size)
  replace Y1 := Lib.hid (Y1.out.below hb hb.size)
  replace Y2 := Lib.hid (Y2.out.below hb hb.size)
  replace Y3 := Lib.hid (Y3.out.below hb hb.size)
  replace X3 := Lib.hid (X3.out.below hb hb.size)
  replace Y4 := Lib.hid (Y4.out.below hb hb.size)
  clear hb
  go_wp2_with fail
  go_ret
  exact ⟨rfl, HB.out⟩end Go.Proofs.YtapnnheggjahlaaGreatDoor
