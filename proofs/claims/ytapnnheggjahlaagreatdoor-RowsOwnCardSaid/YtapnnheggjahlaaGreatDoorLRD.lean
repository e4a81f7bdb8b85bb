/-
  THE WALK of RowsOrdered.
-/
import Derived.Test.YtapnnheggjahlaaGreatDoorGM
namespace Go.Proofs.YtapnnheggjahlaaGreatDoor
open Go.RowKit

/-- rows cut, in new memory -/
def CutAt (w : World) (C : List (List V)) (v : Value) (w' : World) : Prop := ∃ vs, w'.ownsRow w.heap.size 34 1 v C.length vs ∧ OwnRs w' w.heap.size vs C
theorem CutAt.below {w w1 w2 : World} {C : List (List V)} {v : Value} (h : CutAt w C v w1) (hb : Below w1.heap.size w1 w2) : CutAt w C v w2 := by
  obtain ⟨vs, h1, h2⟩ := h
  exact ⟨vs, own_below h1 hb, h2.below hb⟩
/-- an empty slice, in new memory -/
def EmpAt (T : TypeId) (sz : Nat) (w : World) (v : Value) (w' : World) : Prop := ∃ g, v = .slice (some ⟨g, 0, none⟩) 0 0 ∧ w'.ownsRow w.heap.size T sz v 0 []
theorem EmpAt.below {T : TypeId} {sz : Nat} {w w1 w2 : World} {v : Value} (h : EmpAt T sz w v w1) (hb : Below w1.heap.size w1 w2) : EmpAt T sz w v w2 := by
  obtain ⟨g, h1, h2⟩ := h
  exact ⟨g, h1, own_below h2 hb⟩
theorem Ordered_none (A : Option Addr) (c : Nat) (Ak : Option Addr) (ck n : Nat) (w : World) (hr : LReads w w.heap.size A []) (h0 : chkR [[]] = 0) :
    Calls Tryz.prog 42 #[.slice A 0 c, .slice Ak n ck] w fun e w' => ∃ (Ao : Option Addr) (co : Nat), e = .returned (.tuple #[.slice Ao 0 co, .int .i64 0]) ∧ Below w.heap.size w w' := by
  have HC := Lib.hid (checkKeys_none A c [] Ak ck n w hr ⟨by simp, fun r h => by simp at h⟩ (.inl rfl))
  rw [h0] at HC
  have HR := Lib.hid hr
  clear hr h0
  go_enter Tryz.func42, Tryz.ntmps42
  go_wp2_with fail
  refine HC.out.mono ?_
  rintro e w1 ⟨rfl, hb1⟩
  have W1 := Lib.hid hb1
  clear hb1
  go_wp2_with fail
  refine (byKeys_any _ _ _ w1).mono ?_
  rintro e w2 ⟨rfl, rfl⟩
  go_wp2_with fail
  have q1 := Blk.new w1 58 #[.slice none 0 0]
  have q2 := Blk.new (w1.alloc (.cells #[.slice none 0 0] 58)) 100 #[.func (.func 98) #[] #[.pointer (some ⟨w1.heap.size, 0, none⟩)], .func (.func 61) #[] #[]]
  rw [show (w1.alloc (.cells #[.slice none 0 0] 58)).heap.size = w1.heap.size + 1 by simp] at q2
  have b1 : Below w1.heap.size w1 ((w1.alloc (.cells #[.slice none 0 0] 58)).alloc (.cells #[.func (.func 98) #[] #[.pointer (some ⟨w1.heap.size, 0, none⟩)], .func (.func 61) #[] #[]] 100)) := al (al (Below.refl _ _) _) _
  refine (sorted_any (KOk []) [cmpKs [], cmpR] (by rw [ordC_two]; exact cmpKR_WO _) (fun a b h => by rw [ordC_two] at h; exact cmpKR_eq a b h) (by simp) A c [] _ _ (fun h => by simp at h) (fun r h => by simp at h) (fun r h => by simp at h) (by simp) ⟨_, 0, 2, rfl, by simp, fun j hj => ?_⟩ (fun _ => ⟨⟨(fun v h => by cases h), by simp⟩, (fun k h => by cases h)⟩)).mono ?_
  · match j, hj with
    | 0, _ => exact ⟨_, q2.cell 0, byKeys_isOrd [] w1.heap.size _ none 0 _ (q1.alloc _) (fun h => by simp [kI] at h) (by simp)⟩
    | 1, _ => exact ⟨_, q2.cell 1, (compare_isOrd _).imp fun r h => h.1⟩
  rintro e w3 ⟨g, vs, rfl, hg, hb, hrs, hb3⟩
  have HO := Lib.hid (thn (thn W1.out b1) hb3)
  clear hg hb hrs hb3 q1 q2 b1
  go_wp2_with fail
  go_ret2
  exact ⟨_, _, rfl, HO.out⟩
theorem infoI : (Tryz.prog.info? 3).map (fun i => (i.zero, i.size, i.bytes)) = some (some (.int .i64 0), 1, 8) := by kernel_rfl
theorem Ordered_any (A : Option Addr) (c : Nat) (L : List (List V)) (Ak : Option Addr) (ck : Nat) (ks : List (Int × Bool)) (w : World) (hr : LReads w w.heap.size A L) (hi : InL L) (hk : KReads w w.heap.size Ak ks) (hkl : ks.length ≤ 1000000) :
    Calls Tryz.prog 42 #[.slice A L.length c, .slice Ak ks.length ck] w fun e w' => ∃ (Ao : Option Addr) (no co : Nat), e = .returned (.tuple #[.slice Ao no co, .int .i64 (ordE L ks)]) ∧ (ordE L ks = 0 → no = (srtC (cmpKR (natK ks)) L).length ∧ LReads w' w'.heap.size Ao (srtC (cmpKR (natK ks)) L)) ∧ (ordE L ks ≠ 0 → no = 0) ∧ Below w.heap.size w w' := by
  by_cases he : ordE L ks = 0
  · have hz : chkR [L] = 0 := Classical.byContradiction fun h => h ((ordE_bad h).symm.trans he)
    by_cases hne : L = []
    · subst hne
      refine (Ordered_none A c Ak ck _ w hr hz).mono fun e w' ⟨Ao, co, h1, h2⟩ => ⟨Ao, 0, co, by rw [he]; exact h1, fun _ => ⟨(srtC_len []).symm, ?_⟩, fun h => absurd he h, h2⟩
      rw [List.eq_nil_of_length_eq_zero (srtC_len (c := cmpKR (natK ks)) [])]
      exact LReads.nil_ _ _ _
    · have f1 := fine_of hz (L := L) (by simp) hi
      have hp : ∀ k ∈ ks, 0 ≤ k.1 ∧ k.1 < (sh L : Int) := Classical.byContradiction fun h => by
        have : ordE L ks = 1 := ordE_none hz (by
          cases h' : placesB L (ks.map (·.1)) with
          | false => rfl
          | true => exact absurd ((places_keys hne f1.2.2).1 h') h)
        omega
      have e1 := kI_natK fun k hk => (hp k hk).1
      have q := Ordered_ok A c L Ak ck (natK ks) w hr hi hz hne (by rw [e1]; exact hk) (by rw [natK_len]; exact hkl) fun k hk => by
        obtain ⟨k', hk', rfl⟩ := natK_mem hk
        have := hp k' hk'
        show k'.1.toNat < sh L
        omega
      rw [natK_len] at q
      exact q.mono fun e w' ⟨g, vs, h1, h2, h3, h4, h5⟩ => ⟨_, _, _, by rw [he]; exact h1, fun _ => ⟨(srtC_len L).symm, h4.lreads h3⟩, fun h => absurd he h, h5⟩
  · exact (Ordered_err A c L Ak ck ks w hr hi hk hkl he).mono fun e w' ⟨h1, h2⟩ => ⟨_, _, _, h1, fun h => absurd h he, fun _ => rfl, h2⟩
theorem ROrd_any (A : Option Addr) (c : Nat) (L : List (List V)) (Ak : Option Addr) (ck : Nat) (ks : List (Int × Bool)) (w : World) (hr : LReads w w.heap.size A L) (hf : ∀ r ∈ L, r.length ≤ 16 ∧ VFit r) (hc : L.length ≤ c) (hn : L.length ≤ 1000000) (hk : KReads w w.heap.size Ak ks) (hkl : ks.length ≤ 1000000) (hp : placesB L (ks.map (·.1)) = true) :
    Calls Tryz.prog 43 #[.slice A L.length c, .slice Ak ks.length ck] w fun e w' => ∃ A' c', e = .returned (.slice A' (srtC (cmpKR (natK ks)) L).length c') ∧ LReads w' w'.heap.size A' (srtC (cmpKR (natK ks)) L) ∧ Below w.heap.size w w' := by
  rw [srtC_len]
  by_cases hne : L = []
  · subst hne
    refine (ROrdered_nil A Ak c _ ck w).mono fun e w' ⟨A', c', h1, h2⟩ => ⟨A', c', h1, ?_, h2⟩
    rw [List.eq_nil_of_length_eq_zero (srtC_len (c := cmpKR (natK ks)) [])]
    exact LReads.nil_ _ _ _
  · have hp2 := (places_keys hne fun r hr => (hf r hr).1).1 hp
    have e1 := kI_natK fun k hk => (hp2 k hk).1
    have q := ROrdered_any (natK ks) Ak ck (by rw [natK_len]; exact hkl) (L.length + 1) A c L w (by omega) hr (by rw [e1]; exact hk) (fun r hr => ⟨by have := (hf r hr).1; omega, (hf r hr).2, fun k hk => by
      obtain ⟨k', hk', rfl⟩ := natK_mem hk
      have h1 := hp2 k' hk'
      have h2 := sh_le hr
      show k'.1.toNat < r.length
      omega⟩) hc hn
    rw [natK_len] at q
    exact q

set_option maxHeartbeats 4000000 in
set_option maxRecDepth 100000 in
theorem RowsOrdered_any (A Ak : Option Addr) (c ck : Nat) (L : List (List V)) (ks : List (Int × Bool)) (w : World) (hG : G w) (hl : LReads0 w w.heap.size A L) (hL : InL L) (hk : KReads w w.heap.size Ak ks) (hkc : ks.length ≤ ck) :
    Calls Tryz.prog 8 #[.slice A L.length c, .slice Ak ks.length ck] w fun e w' => e = .returned (.bool true) ∧ Below w.heap.size w w' := by
  have HG := Lib.hid hG
  have HF := Lib.hid hL
  clear hG
  have hmin : min (ks.length : Int) 20 = ((min ks.length 20 : Nat) : Int) := by omega
  have hmc : min ks.length 20 ≤ ck := by omega
  have HA := Lib.hid (And.intro hl (And.intro hL.fit hk))
  obtain ⟨i0, hi, hz0, hz1, hz2⟩ := info_parts infoK
  have HT : Hid ((ks.take 20).length = min ks.length 20) := by show _ = _; rw [List.length_take]; omega
  have HM := Lib.hid hmin
  clear hl hk
  go_enter Tryz.func8, Tryz.ntmps8
  go_wp2_with fail
  refine wp_region_grow (W := w) 8 [[], [0], [], [], [], [4], [5], [3, 6]] [] (fun i v w' => match i with
    | 0 => v = .slice A L.length c
    | 1 => CutAt w (cutL 30 L) v w'
    | 2 => EmpAt 61 2 w v w'
    | 3 => v = .slice Ak ks.length ck
    | 4 => v = .slice Ak ks.length ck
    | 5 => v = .int .i64 (ks.length : Nat)
    | 6 => v = .int .i64 (min ks.length 20 : Nat)
    | _ => v = .slice Ak (min ks.length 20) ck) (by kernel_rfl) (by kernel_rfl) ?hD ⟨?o0, ?o1, ?o2, ?o3, ?o4, ?o5, ?o6, ?o7, trivial⟩ ?fin
  case hD =>
    intro i v w1 w2 hb hd
    split at hd <;> first | exact hd | exact CutAt.below hd hb | exact EmpAt.below hd hb
  case o0 =>
    refine growOne_of (pre := []) rfl ?_
    simp only [fillL, Act.put]
    intro f w' hb hp
    clear hp
    go_wp2_with fail
    exact ⟨Below.refl _ _, rfl, fun h => by simp at h⟩
  case o1 =>
    refine growOne_of (pre := [0]) rfl ?_
    simp only [fillL, Region.dstOf, List.getElem?_toArray, List.getElem?_cons_zero, Option.bind_some, Act.put]
    intro f w' hb hp
    have h0 : f 0 = .slice A L.length c := hp 0 (List.mem_cons_self ..)
    clear hp
    rw [h0]
    have HB := Lib.hid hb
    clear hb h0
    go_wp2_with fail
    refine (CutL_any 30 A c L w' (HA.out.1.below HB.out HB.out.size) HA.out.2.1 (by omega)).mono ?_
    rintro e w1 ⟨v1, vs1, rfl, ho, hrs, _, hb⟩
    obtain ⟨a1, c1, rfl⟩ := own_slice ho
    have HO : Hid (growPost (fun i v w' => match i with
    | 0 => v = .slice A L.length c
    | 1 => CutAt w (cutL 30 L) v w'
    | 2 => EmpAt 61 2 w v w'
    | 3 => v = .slice Ak ks.length ck
    | 4 => v = .slice Ak ks.length ck
    | 5 => v = .int .i64 (ks.length : Nat)
    | 6 => v = .int .i64 (min ks.length 20 : Nat)
    | _ => v = .slice Ak (min ks.length 20) ck) [] 1 w' w1 (.slice a1 (cutL 30 L).length c1)) := ⟨hb, ⟨vs1, own_weaker ho HB.out.size, hrs.weaker HB.out.size⟩, fun h => by simp at h⟩
    clear ho hrs hb
    go_wp2_with fail
    exact HO.out
  case o2 =>
    refine growOne_of (pre := []) rfl ?_
    simp only [fillL, Act.put]
    intro f w' hb hp
    clear hp
    have HB := Lib.hid hb
    clear hb
    go_wp2_with fail
    exact ⟨al (Below.refl _ _) _, ⟨_, rfl, own_weaker (own_empty w' 61 2) HB.out.size⟩, fun h => by simp at h⟩
  case o3 =>
    refine growOne_of (pre := []) rfl ?_
    simp only [fillL, Act.put]
    intro f w' hb hp
    clear hp
    go_wp2_with fail
    exact ⟨Below.refl _ _, rfl, fun h => by simp at h⟩
  case o4 =>
    refine growOne_of (pre := []) rfl ?_
    simp only [fillL, Act.put]
    intro f w' hb hp
    clear hp
    go_wp2_with fail
    exact ⟨Below.refl _ _, rfl, fun h => by simp at h⟩
  case o5 =>
    refine growOne_of (pre := [4]) rfl ?_
    simp only [fillL, Region.dstOf, List.getElem?_toArray, List.getElem?_cons_zero, List.getElem?_cons_succ, Option.bind_some, Act.put]
    intro f w' hb hp
    have h0 : f 4 = .slice Ak ks.length ck := hp 4 (List.mem_cons_self ..)
    clear hp
    rw [h0]
    clear h0
    go_wp2_with fail
    exact ⟨Below.refl _ _, rfl, fun h => by simp at h⟩
  case o6 =>
    refine growOne_of (pre := [5]) rfl ?_
    simp only [fillL, Region.dstOf, List.getElem?_toArray, List.getElem?_cons_zero, List.getElem?_cons_succ, Option.bind_some, Act.put]
    intro f w' hb hp
    have h0 : f 5 = .int .i64 (ks.length : Nat) := hp 5 (List.mem_cons_self ..)
    clear hp
    rw [h0]
    clear h0
    go_wp2_with fail
    exact ⟨Below.refl _ _, rfl, fun h => by simp at h⟩
  case o7 =>
    refine growOne_of (pre := [3, 6]) rfl ?_
    simp only [fillL, Region.dstOf, List.getElem?_toArray, List.getElem?_cons_zero, List.getElem?_cons_succ, Option.bind_some, Act.put]
    intro f w' hb hp
    have h0 : f 3 = .slice Ak ks.length ck := hp 3 (by decide)
    have h1 : f 6 = .int .i64 (min ks.length 20 : Nat) := hp 6 (by decide)
    clear hp
    rw [h0, h1]
    clear h0 h1 hmin HM
    generalize min ks.length 20 = mm at *
    go_wp2_with fail
    exact ⟨Below.refl _ _, rfl, fun h => by simp at h⟩
  case fin =>
    intro f w1 hb hd _
    have e0 : f 0 = .slice A L.length c := hd 0 (by decide)
    obtain ⟨vs1, ho, hrs⟩ : ∃ vs, w1.ownsRow w.heap.size 34 1 (f 1) (cutL 30 L).length vs ∧ OwnRs w1 w.heap.size vs (cutL 30 L) := hd 1 (by decide)
    obtain ⟨g2, e2, ho2⟩ : ∃ g, f 2 = .slice (some ⟨g, 0, none⟩) 0 0 ∧ w1.ownsRow w.heap.size 61 2 (f 2) 0 [] := hd 2 (by decide)
    have e3 : f 3 = .slice Ak ks.length ck := hd 3 (by decide)
    have e4 : f 4 = .slice Ak ks.length ck := hd 4 (by decide)
    have e5 : f 5 = .int .i64 (ks.length : Nat) := hd 5 (by decide)
    have e6 : f 6 = .int .i64 (min ks.length 20 : Nat) := hd 6 (by decide)
    have e7 : f 7 = .slice Ak (min ks.length 20) ck := hd 7 (by decide)
    clear hd
    obtain ⟨A1, c1, e1, hl1⟩ := OutR.lreads ⟨vs1, ho, hrs⟩
    have hcap := own_cap (e1 ▸ ho)
    rw [show List.range 8 = [0, 1, 2, 3, 4, 5, 6, 7] from rfl]
    simp only [fillL, Region.dstOf, List.getElem?_toArray, List.getElem?_cons_zero, List.getElem?_cons_succ, Option.bind_some, Act.put]
    rw [e2] at ho2
    rw [e0, e1, e2, e3, e4, e5, e6, e7]
    have HR1 := Lib.hid ((HA.out.2.2.below hb hb.size).take 20).reads
    rw [HT.out] at HR1
    have HO2 := Lib.hid ho2
    have HX := Lib.hid (And.intro hl1 (And.intro hb hcap))
    have hsz := hb.size
    clear e0 e1 e2 e3 e4 e5 e6 e7 hb ho hrs ho2 hl1 hcap HM hmin
    go_frame
    refine wpList_append_fresh rfl (.tmp 14) (.tmp 19) 58 rfl w.heap.size 61 i0 (.agg #[.int .i64 0, .bool false]) 2 16 Tryz.underlying58 hi hz0 hz1 hz2 rfl g2 rfl HO2.out w1.heap.size Ak (min ks.length 20) ck (kcellsI (ks.take 20)) rfl HR1.out ?c2 ?c3 ?c4 ?_
    case c2 => unfold maxLen; omega
    case c3 => omega
    case c4 => exact hsz
    intro v2 w2 ho2 hbn
    have hb2 : Below w.heap.size w w2 := thn HX.out.2.1 hbn
    rw [← HT.out] at ho2
    obtain ⟨A2, c2, rfl, hk2, hc2⟩ := own_kreadsI ho2
    have B2 := Lib.hid hb2
    have hcl := cutL_len 30 L
    have hkl2 : (ks.take 20).length ≤ 20 := by rw [List.length_take]; omega
    have S := Lib.hid (And.intro (HX.out.1.below hbn hbn.size) (And.intro hk2 (HG.out.thn hb2)))
    have HI : Hid (InL (cutL 30 L) ∧ (∀ r ∈ cutL 30 L, r.length ≤ 18) ∧ (cutL 30 L).length ≤ c1 ∧ (ks.take 20).length ≤ c2) := ⟨HF.out.cutL, cutL_rows, HX.out.2.2, hc2⟩
    clear ho2 hbn hb2 hk2 hc2 HX HO2 HR1 HT HA HF HG hsz hmc hkc hi hz0 hz1 hz2 i0
    generalize cutL 30 L = a at *
    generalize ks.take 20 = k at *
    go_wp2_with fail
    refine (Ordered_any A1 c1 a A2 c2 k w2 S.out.1 HI.out.1 S.out.2.1 (by omega)).mono ?_
    rintro e w3 ⟨Ao, no, co, rfl, hn, hn', hb⟩
    have N1 := Lib.hid (And.intro hn (And.intro hn' hb))
    clear hn hn' hb
    obtain ⟨i0, hi, hz0, hz1, hz2⟩ := info_parts infoI
    go_wp2_with fail
    go_loopw [9, 10] (fun v i wr => ∃ j : Nat, j ≤ k.length ∧ i = .int .i64 j ∧ Hid (wr.ownsRow w3.heap.size 3 1 v j (icells ((k.map (·.1)).take j)) ∧ Below w3.heap.size w3 wr)) (fun _ i _ => k.length - (intOf i).toNat)
    case atStart => exact ⟨0, Nat.zero_le _, rfl, ⟨rfl, .inl ⟨rfl, rfl⟩⟩, Below.refl _ _⟩
    case round =>
      obtain ⟨j, hj, rfl, HJ⟩ := hrel
      by_cases hlt : j < k.length
      · obtain ⟨b, o, rfl, hbb, hc1, hc2⟩ := (S.out.2.1.below (thn N1.out.2.2 HJ.out.2) (thn N1.out.2.2 HJ.out.2).size).at_ hlt
        have HE : Hid (icells ((k.map (·.1)).take (j + 1)) = icells ((k.map (·.1)).take j) ++ [.int .i64 k[j].1]) := by
          show _ = _
          rw [List.take_succ_eq_append_getElem (by simpa using hlt)]
          simp only [icells, List.map_append, List.map_cons, List.map_nil, List.getElem_map]
        generalize k[j].1 = m at *
        have q1 := Blk.new wr 3 #[.int .i64 m]
        have q2 := sread_one q1 (B := wr.heap.size + 1) (by omega)
        have H1 := Lib.hid (And.intro (HJ.out.1.alloc (.cells #[.int .i64 m] 3)) (And.intro q2 HJ.out.2))
        clear q1 q2 hc2
        go_wp2_with (at_builtin; refine wpList_append_any _ rfl (.tmp 33) (.tmp 39) 52 rfl w3.heap.size 3 i0 (.int .i64 0) 1 8 Tryz.underlying52 hi hz0 hz1 hz2 rfl (by decide) _ _ _ rfl H1.out.1 (wr.heap.size + 1) _ 1 1 [.int .i64 m] rfl H1.out.2.1 ?c1 ?c2 ?c3 ?c4 ?_)
        case c1 => first | rfl | (intro u hu; simp only [List.mem_cons, List.not_mem_nil, or_false] at hu; subst hu; rfl)
        case c2 => unfold maxLen; omega
        case c3 => omega
        case c4 => have := H1.out.2.2.size; simp <;> omega
        intro v9 w9 ho9 hg9 _
        have HN : Hid (w9.ownsRow w3.heap.size 3 1 v9 (j + 1) (icells ((k.map (·.1)).take (j + 1))) ∧ Below w3.heap.size w3 w9) := by
          rw [HE.out]
          exact ⟨ho9, (al H1.out.2.2 _).grown hg9 (by have := H1.out.2.2.size; simp <;> omega) (own_base H1.out.1)⟩
        clear ho9 hg9 H1 HJ HE
        go_wp2_with fail
        go_roundw
        case rel => exact ⟨j + 1, by omega, by go_num, HN⟩
        case measure => simp [intOf]; omega
      · have hjk : j = k.length := by omega
        have HJ2 : Hid (∃ Aq cq, u9 = .slice Aq (k.map (·.1)).length cq ∧ IReads wr wr.heap.size Aq (k.map (·.1)) ∧ Below w3.heap.size w3 wr) := by
          have h1 := HJ.out.1
          rw [hjk, List.take_of_length_le (by simp)] at h1
          rw [show k.length = (k.map (·.1)).length by simp] at h1
          obtain ⟨Aq, cq, e1, e2, _⟩ := own_ireads h1
          exact ⟨Aq, cq, e1, e2, HJ.out.2⟩
        obtain ⟨Aq, cq, rfl, hq, hb⟩ := HJ2.out
        have B4 := Lib.hid (And.intro hq (And.intro (thn N1.out.2.2 hb) hb))
        clear hq hb HJ HJ2 hjk
        have hpl : (k.map (·.1)).length ≤ 20 := by simpa using hkl2
        have HPE : Hid (∀ b, placesB a (k.map (·.1)) = b → chkR [a] = 0 → ordE a k = if b then 0 else 1) := fun b hb hz => by
          cases b
          · exact ordE_none hz hb
          · exact ordE_place hz hb
        have HPB : Hid (chkR [a] ≠ 0 → ordE a k = chkR [a]) := ordE_bad
        have HRO := Lib.hid (ROrd_any A1 c1 a A2 c2 k)
        generalize hps : k.map (·.1) = ps at *
        clear hps
        go_wp2_with fail
        refine (RList_any A1 none c1 0 a [] wr (S.out.1.below B4.out.2.1 B4.out.2.1.size) (LReads.nil_ _ _ _) HI.out.1.fit ⟨by simp, fun r h => by simp at h⟩).mono ?_
        rintro e w5 ⟨rfl, hb⟩
        have B5 := Lib.hid (And.intro (thn B4.out.2.1 hb) (And.intro (thn B4.out.2.2 hb) (B4.out.1.below hb hb.size)))
        clear hb B4
        rw [chkR_nil]
        by_cases hz : chkR [a] = 0
        · have hfa := Lib.hid (fine_of hz (L := a) (by simp) HI.out.1)
          have HZ := Lib.hid hz
          rw [hz]
          go_wp2_with fail
          refine (RPlaces_any A1 Aq c1 cq a ps w5 (S.out.1.below B5.out.1 B5.out.1.size) B5.out.2.2 (by omega) (fun r h => by have := hfa.out.2.2 r h; unfold maxLen; omega) (by omega)).mono ?_
          rintro e w6 ⟨rfl, hb⟩
          have B6 := Lib.hid (And.intro (thn B5.out.1 hb) (thn B5.out.2.1 hb))
          clear hb B5 hz
          cases hpb : placesB a ps
          · have eo := HPE.out _ hpb HZ.out
            simp only [Bool.false_eq_true, if_false] at eo
            have en := N1.out.2.1 (by omega)
            subst en
            rw [eo]
            clear hpb eo
            go_wp2_with fail
            refine (awake_any w6 (S.out.2.2.thn B6.out.1)).mono ?_
            rintro e w12 ⟨rfl, hb⟩
            have B12 := Lib.hid (thn B2.out (thn B6.out.1 hb))
            clear hb
            go_wp2_with fail
            go_ret
            exact ⟨rfl, B12.out⟩
          · have eo := HPE.out _ hpb HZ.out
            simp only [if_true] at eo
            obtain ⟨en, hl⟩ := N1.out.1 eo
            have HL := Lib.hid hl
            have HPT := Lib.hid hpb
            rw [eo]
            subst en
            clear hpb eo hl
            go_wp2_with fail
            refine (HRO.out w6 (S.out.1.below B6.out.1 B6.out.1.size) (fun r h => ⟨hfa.out.2.2 r h, fun v hv => ((HI.out.1.2 r h).2 v hv).1⟩) HI.out.2.2.1 (by omega) (S.out.2.1.below B6.out.1 B6.out.1.size) (by omega) HPT.out).mono ?_
            rintro e w7 ⟨A7, c7, rfl, hl, hb⟩
            have B7 := Lib.hid (And.intro (thn B6.out.1 hb) (And.intro (HL.out.below (thn B6.out.2 hb) (thn B6.out.2 hb).size) hl))
            clear hl hb
            go_wp2_with fail
            refine (REqual_same Ao A7 co c7 (srtC (cmpKR (natK k)) a) w7 B7.out.2.1 B7.out.2.2 ⟨by rw [srtC_len]; exact HI.out.1.1, fun r hr => HI.out.1.2 r (srtC_mem.1 hr)⟩).mono ?_
            rintro e w8 ⟨rfl, hb⟩
            have B8 := Lib.hid (thn B7.out.1 hb)
            clear hb
            go_wp2_with fail
            refine (awake_any w8 (S.out.2.2.thn B8.out)).mono ?_
            rintro e w12 ⟨rfl, hb⟩
            have B12 := Lib.hid (thn B2.out (thn B8.out hb))
            clear hb
            go_wp2_with fail
            go_ret
            exact ⟨rfl, B12.out⟩
        · have eo := HPB.out hz
          have en := N1.out.2.1 (by rw [eo]; exact hz)
          subst en
          rw [eo]
          have hz1' : (chkR [a] == 0) = false := by simp [hz]
          have hz2' : (chkR [a] != 0) = true := by simp [hz]
          have hz3 : (chkR [a] == chkR [a]) = true := by simp
          generalize chkR [a] = k3 at *
          clear eo hz
          go_wp2_with fail
          refine (awake_any w5 (S.out.2.2.thn B5.out.1)).mono ?_
          rintro e w12 ⟨rfl, hb⟩
          have B12 := Lib.hid (thn B2.out (thn B5.out.1 hb))
          clear hb
          go_wp2_with fail
          go_ret
          exact ⟨rfl, B12.out⟩
end Go.Proofs.YtapnnheggjahlaaGreatDoor
