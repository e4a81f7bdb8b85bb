/-
  THE WALK of RowsStrings: String of any rows, Parse of any string.
-/
import Derived.Test.YtapnnheggjahlaaGreatDoorLBk
import Derived.Test.YtapnnheggjahlaaGreatDoorLRO
namespace Go.Proofs.YtapnnheggjahlaaGreatDoor
open Go.RowKit

set_option maxHeartbeats 16000000 in
set_option maxRecDepth 100000 in
theorem RowsStrings_any (A : Option Addr) (c : Nat) (L : List (List V)) (s : ByteArray) (x : Bool) (w : World) (hG : GE w) (hl : LReads0 w w.heap.size A L) (hL : InL L) (hs : s.size ≤ maxLen) :
    Calls Tryz.prog 9 #[.slice A L.length c, .string s, .bool x] w fun e w' => e = .returned (.bool true) ∧ Below w.heap.size w w' := by
  have HG := Lib.hid hG
  have HA := Lib.hid (And.intro hl hL)
  have hs := Nat.le_trans hs (Nat.le_refl _)
  unfold maxLen at hs
  obtain ⟨i0, hi, hz0, hz1, hz2⟩ := info_parts infoR
  clear hG hl hL
  obtain ⟨m, hm⟩ : ∃ m : Nat, m = min s.size 4000 := ⟨_, rfl⟩
  have hmi : min (s.size : Int) 4000 = (m : Int) := by omega
  have hms : (m : Int) ≤ (s.size : Int) := by omega
  have hm4 : m ≤ 4000 := by omega
  have hts : (s.extract 0 m).size ≤ 4000 := by rw [ByteArray.size_extract]; omega
  clear hm
  go_enter Tryz.func9, Tryz.ntmps9
  go_wp2_with fail
  refine (CutL_any 60 A c L w HA.out.1 HA.out.2.fit (by omega)).mono ?_
  rintro e w1 ⟨v, vs, rfl, ho, hrs, hap, hb⟩
  have HI : Hid (InL (cutL 60 L)) := HA.out.2.cutL
  have hl60 := cutL_len 60 L
  generalize cutL 60 L = lst at *
  cases x with
  | false =>
    obtain ⟨A1, c1, rfl, hl1⟩ := OutR.lreads ⟨vs, ho, hrs⟩
    have HS := Lib.hid (And.intro (HG.out.thn hb) (And.intro hl1 (And.intro HI.out (And.intro (show lst.length ≤ 600 by omega) hb))))
    clear hl1 ho hrs hap hb HI HA HG
    clear hl60
    go_wp2_with fail
    by_cases h0 : chkR [lst] = 0
    · have f1 := fine_of h0 (L := lst) (by simp) HS.out.2.2.1
      have HF1 : Hid (∀ r ∈ lst, r.length ≤ 16 ∧ ∀ v ∈ r, v.fine) := Lib.hid fun r hr => ⟨f1.2.2 r hr, (f1.1 r hr).2⟩
      have HZ := Lib.hid h0
      clear f1 h0
      go_wp2_with fail
      refine (StringR_ok A1 c1 lst w1 HS.out.1.g HS.out.2.1 HS.out.2.2.1 HZ.out).mono ?_
      rintro e w2 ⟨rfl, hb⟩
      have H2 := Lib.hid (And.intro (HS.out.1.thn hb) (And.intro (HS.out.2.1.below hb hb.size) (thn HS.out.2.2.2.2 hb)))
      clear hb
      by_cases hbig : 20000 < (strR lst).length
      · have he : strRes lst = .tuple #[.string ⟨#[]⟩, .int .i64 2] := by unfold strRes; rw [if_pos hbig]
        rw [he]
        have HG2 := Lib.hid hbig
        clear he hbig
        go_wp2_with fail
        refine (RList_any A1 none c1 0 lst [] w2 H2.out.2.1 (LReads.nil_ _ _ _) HS.out.2.2.1.fit ⟨Nat.zero_le _, fun r hr => by cases hr⟩).mono ?_
        rintro e w3 ⟨rfl, hb⟩
        rw [chkR_nil, HZ.out]
        have H3 := Lib.hid (And.intro (H2.out.1.thn hb) (And.intro (H2.out.2.1.below hb hb.size) (thn H2.out.2.2 hb)))
        clear hb H2
        go_wp2_with fail
        refine (RStringR_any A1 c1 lst w3 H3.out.2.1 HF1.out (by have := HS.out.2.2.2.1; omega)).mono ?_
        rintro e w4 ⟨rfl, hb⟩
        have HW := Lib.hid (And.intro (H3.out.1.thn hb) (thn H3.out.2.2 hb))
        obtain ⟨y, hy⟩ : ∃ y : ByteArray, y = ⟨(strR lst).toArray⟩ := ⟨_, rfl⟩
        rw [← hy]
        have hyz : 20000 < y.size := by
          rw [ba_lenL (l := strR lst) (by rw [hy])]; exact HG2.out
        have hyd : decide ((20000 : Int) < (y.size : Int)) = true := decide_eq_true (by omega)
        clear hb H3 HG2 hy hyz HF1 HZ HS
        go_wp2_with fail
        obtain ⟨t, ht⟩ : ∃ t : ByteArray, t = s.extract 0 m := ⟨_, rfl⟩
        rw [← ht] at hts ⊢
        clear ht
        refine (ParseR_any t w4 HW.out.1 (by omega)).mono ?_
        rintro e wa ⟨hp, hb⟩
        have HA := Lib.hid (And.intro (HW.out.1.thn hb) (thn HW.out.2 hb))
        clear hb
        rcases hp with ⟨v, M, rfl, h2, h3, h4, h5⟩ | ⟨rfl, hp⟩
        · obtain ⟨A5, c5, rfl, hl5⟩ := OutR.lreads h5
          have HM := Lib.hid (And.intro h2 (And.intro h3 (And.intro h4 hl5)))
          clear h2 h3 h4 h5 hl5
          go_wp2_with fail
          refine (RParseR_any t wa (by omega)).mono ?_
          rintro e wb ⟨hq, hb⟩
          obtain ⟨v, rfl, ho⟩ : ∃ v, e = .returned (.tuple #[v, .bool true]) ∧ OutR wa wb v M := by
            rcases hq with ⟨v, M', h1, h2, -, -, h5⟩ | ⟨-, h2⟩
            · have := strIs_one h2 HM.out.1
              subst this
              exact ⟨v, h1, h5⟩
            · exact absurd HM.out.2.1 (h2 M HM.out.1)
          obtain ⟨A6, c6, rfl, hl6⟩ := OutR.lreads ho
          have HB := Lib.hid (And.intro (HA.out.1.thn hb) (And.intro (thn HA.out.2 hb) (And.intro (HM.out.2.2.2.below hb hb.size) hl6)))
          clear hq ho hl6 hb HA
          go_wp2_with fail
          refine (REqual_same A5 A6 c5 c6 M wb HB.out.2.2.1 HB.out.2.2.2 HM.out.2.2.1).mono ?_
          rintro e wc ⟨rfl, hb⟩
          have HC := Lib.hid (And.intro (HB.out.1.thn hb) (thn HB.out.2.1 hb))
          clear hb HB HM
          go_wp2_with fail
          refine (awake_any wc HC.out.1.g).mono ?_
          rintro e wd ⟨rfl, hb⟩
          have HD := Lib.hid (thn HC.out.2 hb)
          clear hb HC
          go_wp2_with fail
          go_ret
          exact ⟨rfl, HD.out⟩
        · have HP := Lib.hid hp
          clear hp
          go_wp2_with fail
          refine (RParseR_any t wa (by omega)).mono ?_
          rintro e wb ⟨hq, hb⟩
          obtain rfl : e = .returned (.tuple #[.slice none 0 0, .bool false]) := by
            rcases hq with ⟨v, M', h1, h2, h3, -, -⟩ | ⟨h1, -⟩
            · exact absurd h3 (HP.out M' h2)
            · exact h1
          have HB := Lib.hid (And.intro (HA.out.1.thn hb) (thn HA.out.2 hb))
          clear hq hb HA HP
          go_wp2_with fail
          refine (awake_any wb HB.out.1.g).mono ?_
          rintro e wd ⟨rfl, hb⟩
          have HD := Lib.hid (thn HB.out.2 hb)
          clear hb HB
          go_wp2_with fail
          go_ret
          exact ⟨rfl, HD.out⟩
      · have he : strRes lst = .tuple #[.string ⟨(strR lst).toArray⟩, .int .i64 0] := by unfold strRes; rw [if_neg hbig]
        rw [he]
        obtain ⟨y, hy⟩ : ∃ y : ByteArray, y = ⟨(strR lst).toArray⟩ := ⟨_, rfl⟩
        rw [← hy]
        have hyz : ¬ 20000 < y.size := by
          rw [ba_lenL (l := strR lst) (by rw [hy])]; exact hbig
        have hyd : decide ((20000 : Int) < (y.size : Int)) = false := decide_eq_false (by omega)
        have HYe := Lib.hid hy
        clear he hbig hy hyz
        go_wp2_with fail
        refine (RList_any A1 none c1 0 lst [] w2 H2.out.2.1 (LReads.nil_ _ _ _) HS.out.2.2.1.fit ⟨Nat.zero_le _, fun r hr => by cases hr⟩).mono ?_
        rintro e w3 ⟨rfl, hb⟩
        rw [chkR_nil, HZ.out]
        have H3 := Lib.hid (And.intro (H2.out.1.thn hb) (And.intro (H2.out.2.1.below hb hb.size) (thn H2.out.2.2 hb)))
        clear hb H2
        go_wp2_with fail
        refine (RStringR_any A1 c1 lst w3 H3.out.2.1 HF1.out (by have := HS.out.2.2.2.1; omega)).mono ?_
        rintro e w4 ⟨rfl, hb⟩
        rw [← HYe.out]
        have HW := Lib.hid (And.intro (H3.out.1.thn hb) (thn H3.out.2.2 hb))
        have hyy : (y.toList == y.toList) = true := by simp
        clear hb H3 HF1 HZ HS HYe
        go_wp2_with fail
        obtain ⟨t, ht⟩ : ∃ t : ByteArray, t = s.extract 0 m := ⟨_, rfl⟩
        rw [← ht] at hts ⊢
        clear ht
        refine (ParseR_any t w4 HW.out.1 (by omega)).mono ?_
        rintro e wa ⟨hp, hb⟩
        have HA := Lib.hid (And.intro (HW.out.1.thn hb) (thn HW.out.2 hb))
        clear hb
        rcases hp with ⟨v, M, rfl, h2, h3, h4, h5⟩ | ⟨rfl, hp⟩
        · obtain ⟨A5, c5, rfl, hl5⟩ := OutR.lreads h5
          have HM := Lib.hid (And.intro h2 (And.intro h3 (And.intro h4 hl5)))
          clear h2 h3 h4 h5 hl5
          go_wp2_with fail
          refine (RParseR_any t wa (by omega)).mono ?_
          rintro e wb ⟨hq, hb⟩
          obtain ⟨v, rfl, ho⟩ : ∃ v, e = .returned (.tuple #[v, .bool true]) ∧ OutR wa wb v M := by
            rcases hq with ⟨v, M', h1, h2, -, -, h5⟩ | ⟨-, h2⟩
            · have := strIs_one h2 HM.out.1
              subst this
              exact ⟨v, h1, h5⟩
            · exact absurd HM.out.2.1 (h2 M HM.out.1)
          obtain ⟨A6, c6, rfl, hl6⟩ := OutR.lreads ho
          have HB := Lib.hid (And.intro (HA.out.1.thn hb) (And.intro (thn HA.out.2 hb) (And.intro (HM.out.2.2.2.below hb hb.size) hl6)))
          clear hq ho hl6 hb HA
          go_wp2_with fail
          refine (REqual_same A5 A6 c5 c6 M wb HB.out.2.2.1 HB.out.2.2.2 HM.out.2.2.1).mono ?_
          rintro e wc ⟨rfl, hb⟩
          have HC := Lib.hid (And.intro (HB.out.1.thn hb) (thn HB.out.2.1 hb))
          clear hb HB HM
          go_wp2_with fail
          refine (awake_any wc HC.out.1.g).mono ?_
          rintro e wd ⟨rfl, hb⟩
          have HD := Lib.hid (thn HC.out.2 hb)
          clear hb HC
          go_wp2_with fail
          go_ret
          exact ⟨rfl, HD.out⟩
        · have HP := Lib.hid hp
          clear hp
          go_wp2_with fail
          refine (RParseR_any t wa (by omega)).mono ?_
          rintro e wb ⟨hq, hb⟩
          obtain rfl : e = .returned (.tuple #[.slice none 0 0, .bool false]) := by
            rcases hq with ⟨v, M', h1, h2, h3, -, -⟩ | ⟨h1, -⟩
            · exact absurd h3 (HP.out M' h2)
            · exact h1
          have HB := Lib.hid (And.intro (HA.out.1.thn hb) (thn HA.out.2 hb))
          clear hq hb HA HP
          go_wp2_with fail
          refine (awake_any wb HB.out.1.g).mono ?_
          rintro e wd ⟨rfl, hb⟩
          have HD := Lib.hid (thn HB.out.2 hb)
          clear hb HB
          go_wp2_with fail
          go_ret
          exact ⟨rfl, HD.out⟩
    · have HZ := Lib.hid h0
      obtain ⟨q, hq⟩ : ∃ q, q = chkR [lst] := ⟨_, rfl⟩
      have hq0 : (q == 0) = false := beq_eq_false_iff_ne.2 (by rw [hq]; exact h0)
      have hq1 : (q != 0) = true := by rw [hq]; simp [h0]
      have HQ := Lib.hid hq
      clear h0 hq
      go_wp2_with fail
      refine (StringR_err A1 c1 lst w1 HS.out.2.1 HS.out.2.2.1 HZ.out).mono ?_
      rintro e w2 ⟨rfl, hb⟩
      rw [← HQ.out]
      have H2 := Lib.hid (And.intro (HS.out.1.thn hb) (And.intro (HS.out.2.1.below hb hb.size) (thn HS.out.2.2.2.2 hb)))
      clear hb
      go_wp2_with fail
      refine (RList_any A1 none c1 0 lst [] w2 H2.out.2.1 (LReads.nil_ _ _ _) HS.out.2.2.1.fit ⟨Nat.zero_le _, fun r hr => by cases hr⟩).mono ?_
      rintro e w3 ⟨rfl, hb⟩
      rw [chkR_nil, ← HQ.out]
      have HW := Lib.hid (And.intro (H2.out.1.thn hb) (thn H2.out.2.2 hb))
      have hqq : (q != q) = false := by simp
      clear hb H2 HZ HQ HS
      go_wp2_with fail
      obtain ⟨t, ht⟩ : ∃ t : ByteArray, t = s.extract 0 m := ⟨_, rfl⟩
      rw [← ht] at hts ⊢
      clear ht
      refine (ParseR_any t w3 HW.out.1 (by omega)).mono ?_
      rintro e wa ⟨hp, hb⟩
      have HA := Lib.hid (And.intro (HW.out.1.thn hb) (thn HW.out.2 hb))
      clear hb
      rcases hp with ⟨v, M, rfl, h2, h3, h4, h5⟩ | ⟨rfl, hp⟩
      · obtain ⟨A5, c5, rfl, hl5⟩ := OutR.lreads h5
        have HM := Lib.hid (And.intro h2 (And.intro h3 (And.intro h4 hl5)))
        clear h2 h3 h4 h5 hl5
        go_wp2_with fail
        refine (RParseR_any t wa (by omega)).mono ?_
        rintro e wb ⟨hq, hb⟩
        obtain ⟨v, rfl, ho⟩ : ∃ v, e = .returned (.tuple #[v, .bool true]) ∧ OutR wa wb v M := by
          rcases hq with ⟨v, M', h1, h2, -, -, h5⟩ | ⟨-, h2⟩
          · have := strIs_one h2 HM.out.1
            subst this
            exact ⟨v, h1, h5⟩
          · exact absurd HM.out.2.1 (h2 M HM.out.1)
        obtain ⟨A6, c6, rfl, hl6⟩ := OutR.lreads ho
        have HB := Lib.hid (And.intro (HA.out.1.thn hb) (And.intro (thn HA.out.2 hb) (And.intro (HM.out.2.2.2.below hb hb.size) hl6)))
        clear hq ho hl6 hb HA
        go_wp2_with fail
        refine (REqual_same A5 A6 c5 c6 M wb HB.out.2.2.1 HB.out.2.2.2 HM.out.2.2.1).mono ?_
        rintro e wc ⟨rfl, hb⟩
        have HC := Lib.hid (And.intro (HB.out.1.thn hb) (thn HB.out.2.1 hb))
        clear hb HB HM
        go_wp2_with fail
        refine (awake_any wc HC.out.1.g).mono ?_
        rintro e wd ⟨rfl, hb⟩
        have HD := Lib.hid (thn HC.out.2 hb)
        clear hb HC
        go_wp2_with fail
        go_ret
        exact ⟨rfl, HD.out⟩
      · have HP := Lib.hid hp
        clear hp
        go_wp2_with fail
        refine (RParseR_any t wa (by omega)).mono ?_
        rintro e wb ⟨hq, hb⟩
        obtain rfl : e = .returned (.tuple #[.slice none 0 0, .bool false]) := by
          rcases hq with ⟨v, M', h1, h2, h3, -, -⟩ | ⟨h1, -⟩
          · exact absurd h3 (HP.out M' h2)
          · exact h1
        have HB := Lib.hid (And.intro (HA.out.1.thn hb) (thn HA.out.2 hb))
        clear hq hb HA HP
        go_wp2_with fail
        refine (awake_any wb HB.out.1.g).mono ?_
        rintro e wd ⟨rfl, hb⟩
        have HD := Lib.hid (thn HB.out.2 hb)
        clear hb HB
        go_wp2_with fail
        go_ret
        exact ⟨rfl, HD.out⟩
  | true =>
    by_cases h0 : 0 < lst.length
    · obtain ⟨Av, cv, rfl⟩ := own_slice ho
      have h0i : (0 : Int) < (lst.length : Int) := by omega
      have HO : Hid (w1.ownsRow w.heap.size 34 1 (.slice Av lst.length cv) lst.length vs ∧ OwnRs w1 w.heap.size vs lst ∧ Apart (.slice Av lst.length cv) vs ∧ Below w.heap.size w w1) := ⟨ho, hrs, hap, hb⟩
      clear ho hrs hap hb
      go_wp2_with fail
      go_loopw [7] (fun ov wr => ∃ lst : List (List V), lenOf ov = lst.length ∧ 0 < lst.length ∧ lst.length ≤ 600 ∧ Hid (InL lst) ∧ Hid (∃ vs, wr.ownsRow w.heap.size 34 1 ov lst.length vs ∧ OwnRs wr w.heap.size vs lst ∧ Apart ov vs ∧ Below w.heap.size w wr)) (fun ov _ => 600 - lenOf ov)
      case atStart => exact ⟨lst, rfl, h0, by omega, HI, vs, HO.out⟩
      case round =>
        clear HO HI hl60 h0 h0i
        obtain ⟨lst, hlo, h0, h600, HI, HO⟩ := hrel
        obtain ⟨vs, ho, hrs, hap, hb⟩ := HO.out
        clear HO
        by_cases hlt : lst.length < 600
        · obtain ⟨Av, cv, rfl⟩ := own_slice ho
          have hlti : (lst.length : Int) < 600 := by omega
          have h0i : (0 : Int) < (lst.length : Int) := by omega
          obtain ⟨v0, hv0⟩ : ∃ v0, vs[0]? = some v0 := ⟨_, List.getElem?_eq_getElem (by rw [hrs.1]; exact h0)⟩
          have hr0 := hrs.2 0 v0 lst[0] hv0 (List.getElem?_eq_getElem h0)
          obtain ⟨Ar, cr, rfl⟩ := own_slice hr0
          obtain ⟨g, rfl, hcell, hgl⟩ : ∃ g, Av = some ⟨g, 0, none⟩ ∧ wr.cell? ⟨g, 0, none⟩ = some (.slice Ar lst[0].length cr) ∧ g < wr.heap.size := by
            rcases ho.2 with ⟨_, hz⟩ | ⟨g, cap, cur, he, hg, hh, hnc, _, hsz, htk⟩
            · omega
            · injection he with he1 _ _
              have hB : Blk wr g 34 cur := hh
              refine ⟨g, he1, ?_, hB.lt⟩
              rw [hB.cell 0]
              rw [← htk, List.getElem?_take, if_pos (by omega)] at hv0
              simpa using hv0
          have hlen0 : lst[0].length ≤ maxLen := (HI.out.2 lst[0] (List.getElem_mem h0)).1
          have HR := Lib.hid (And.intro ho (And.intro hrs (And.intro hap (And.intro hb (And.intro (List.mem_of_getElem? hv0) hr0)))))
          have HM := Lib.hid (HI.out.2 lst[0] (List.getElem_mem h0))
          have HQ := Lib.hid (sread_one (Blk.new wr 34 #[.slice Ar lst[0].length cr]) (B := wr.heap.size + 1) (by omega))
          have HH := Lib.hid hlo
          clear ho hrs hap hb hv0 hr0 hlen0 hlo
          go_wp2_with (at_builtin; refine wpList_append_any _ rfl (.tmp 28) (.tmp 32) 23 rfl w.heap.size 34 i0 (.slice none 0 0) 1 24 Tryz.underlying23 hi hz0 hz1 hz2 rfl (by decide) _ _ _ rfl (HR.out.1.alloc (.cells #[.slice Ar lst[0].length cr] 34)) (wr.heap.size + 1) _ 1 1 [.slice Ar lst[0].length cr] rfl HQ.out ?c1 ?c2 ?c3 ?c4 ?_)
          case c1 => intro u hu; simp only [List.mem_cons, List.not_mem_nil, or_false] at hu; subst hu; rfl
          case c2 => unfold maxLen; omega
          case c3 => omega
          case c4 => have := HR.out.2.2.2.1.size; simp <;> omega
          intro v2 w3 hown2 hgr2 hu2
          obtain ⟨A2, c2, rfl⟩ := own_slice hown2
          have HN : Hid (∃ vs, w3.ownsRow w.heap.size 34 1 (.slice A2 (lst.length + 1) c2) (lst ++ [lst[0]]).length vs ∧ OwnRs w3 w.heap.size vs (lst ++ [lst[0]]) ∧ Apart (.slice A2 (lst.length + 1) c2) vs ∧ Below w.heap.size w w3) := by
            obtain ⟨y1, y2, y3, y4, y5, y6⟩ := HR.out
            have z1 := (OwnRs.snoc y2 y6).below (al (Below.refl _ _) (.cells #[.slice Ar lst[0].length cr] 34))
            have z2 : Apart (.slice (some ⟨g, 0, none⟩) lst.length cv) (vs ++ [.slice Ar lst[0].length cr]) := fun z hz => by
              rcases List.mem_append.1 hz with h | h
              · exact y3 z h
              · simp only [List.mem_cons, List.not_mem_nil, or_false] at h
                subst h
                exact y3 _ y5
            rw [List.length_append]
            exact ⟨_, hown2, z1.kept z2 hgr2, Apart.app z1 z2 (n := wr.heap.size + 1) (by simp) hu2, (y4.alloc y4.size _).grown hgr2 (by have := y4.size; simp <;> omega) (own_base y1)⟩
          have HI2 : Hid (InL (lst ++ [lst[0]])) := Lib.hid ⟨by rw [List.length_append]; simp only [List.length_cons, List.length_nil]; unfold maxLen; omega, fun r hr => by
            rcases List.mem_append.1 hr with h | h
            · exact HI.out.2 r h
            · simp only [List.mem_cons, List.not_mem_nil, or_false] at h
              subst h
              exact HM.out⟩
          clear hown2 hgr2 hu2 HR HQ HM HH HI hcell hgl
          go_wp2_with fail
          go_roundw
          case rel => exact ⟨lst ++ [lst[0]], by simp [lenOf], by simp, by simp only [List.length_append, List.length_cons, List.length_nil]; omega, HI2, HN⟩
          case measure => simp only [lenOf]; omega
        · have hlf : decide ((lst.length : Int) < 600) = false := decide_eq_false (by omega)
          obtain ⟨A1, c1, rfl, hl1⟩ := OutR.lreads ⟨vs, ho, hrs⟩
          have HS := Lib.hid (And.intro (HG.out.thn hb) (And.intro hl1 (And.intro HI.out (And.intro (show lst.length ≤ 600 by omega) hb))))
          clear hl1 ho hrs hap hb HI HA HG
          clear hlo hlt h0 h600
          go_wp2_with fail
          by_cases h0 : chkR [lst] = 0
          · have f1 := fine_of h0 (L := lst) (by simp) HS.out.2.2.1
            have HF1 : Hid (∀ r ∈ lst, r.length ≤ 16 ∧ ∀ v ∈ r, v.fine) := Lib.hid fun r hr => ⟨f1.2.2 r hr, (f1.1 r hr).2⟩
            have HZ := Lib.hid h0
            clear f1 h0
            go_wp2_with fail
            refine (StringR_ok A1 c1 lst wr HS.out.1.g HS.out.2.1 HS.out.2.2.1 HZ.out).mono ?_
            rintro e w2 ⟨rfl, hb⟩
            have H2 := Lib.hid (And.intro (HS.out.1.thn hb) (And.intro (HS.out.2.1.below hb hb.size) (thn HS.out.2.2.2.2 hb)))
            clear hb
            by_cases hbig : 20000 < (strR lst).length
            · have he : strRes lst = .tuple #[.string ⟨#[]⟩, .int .i64 2] := by unfold strRes; rw [if_pos hbig]
              rw [he]
              have HG2 := Lib.hid hbig
              clear he hbig
              go_wp2_with fail
              refine (RList_any A1 none c1 0 lst [] w2 H2.out.2.1 (LReads.nil_ _ _ _) HS.out.2.2.1.fit ⟨Nat.zero_le _, fun r hr => by cases hr⟩).mono ?_
              rintro e w3 ⟨rfl, hb⟩
              rw [chkR_nil, HZ.out]
              have H3 := Lib.hid (And.intro (H2.out.1.thn hb) (And.intro (H2.out.2.1.below hb hb.size) (thn H2.out.2.2 hb)))
              clear hb H2
              go_wp2_with fail
              refine (RStringR_any A1 c1 lst w3 H3.out.2.1 HF1.out (by have := HS.out.2.2.2.1; omega)).mono ?_
              rintro e w4 ⟨rfl, hb⟩
              have HW := Lib.hid (And.intro (H3.out.1.thn hb) (thn H3.out.2.2 hb))
              obtain ⟨y, hy⟩ : ∃ y : ByteArray, y = ⟨(strR lst).toArray⟩ := ⟨_, rfl⟩
              rw [← hy]
              have hyz : 20000 < y.size := by
                rw [ba_lenL (l := strR lst) (by rw [hy])]; exact HG2.out
              have hyd : decide ((20000 : Int) < (y.size : Int)) = true := decide_eq_true (by omega)
              clear hb H3 HG2 hy hyz HF1 HZ HS
              go_wp2_with fail
              obtain ⟨t, ht⟩ : ∃ t : ByteArray, t = s.extract 0 m := ⟨_, rfl⟩
              rw [← ht] at hts ⊢
              clear ht
              refine (ParseR_any t w4 HW.out.1 (by omega)).mono ?_
              rintro e wa ⟨hp, hb⟩
              have HA := Lib.hid (And.intro (HW.out.1.thn hb) (thn HW.out.2 hb))
              clear hb
              rcases hp with ⟨v, M, rfl, h2, h3, h4, h5⟩ | ⟨rfl, hp⟩
              · obtain ⟨A5, c5, rfl, hl5⟩ := OutR.lreads h5
                have HM := Lib.hid (And.intro h2 (And.intro h3 (And.intro h4 hl5)))
                clear h2 h3 h4 h5 hl5
                go_wp2_with fail
                refine (RParseR_any t wa (by omega)).mono ?_
                rintro e wb ⟨hq, hb⟩
                obtain ⟨v, rfl, ho⟩ : ∃ v, e = .returned (.tuple #[v, .bool true]) ∧ OutR wa wb v M := by
                  rcases hq with ⟨v, M', h1, h2, -, -, h5⟩ | ⟨-, h2⟩
                  · have := strIs_one h2 HM.out.1
                    subst this
                    exact ⟨v, h1, h5⟩
                  · exact absurd HM.out.2.1 (h2 M HM.out.1)
                obtain ⟨A6, c6, rfl, hl6⟩ := OutR.lreads ho
                have HB := Lib.hid (And.intro (HA.out.1.thn hb) (And.intro (thn HA.out.2 hb) (And.intro (HM.out.2.2.2.below hb hb.size) hl6)))
                clear hq ho hl6 hb HA
                go_wp2_with fail
                refine (REqual_same A5 A6 c5 c6 M wb HB.out.2.2.1 HB.out.2.2.2 HM.out.2.2.1).mono ?_
                rintro e wc ⟨rfl, hb⟩
                have HC := Lib.hid (And.intro (HB.out.1.thn hb) (thn HB.out.2.1 hb))
                clear hb HB HM
                go_wp2_with fail
                refine (awake_any wc HC.out.1.g).mono ?_
                rintro e wd ⟨rfl, hb⟩
                have HD := Lib.hid (thn HC.out.2 hb)
                clear hb HC
                go_wp2_with fail
                go_ret
                exact ⟨rfl, HD.out⟩
              · have HP := Lib.hid hp
                clear hp
                go_wp2_with fail
                refine (RParseR_any t wa (by omega)).mono ?_
                rintro e wb ⟨hq, hb⟩
                obtain rfl : e = .returned (.tuple #[.slice none 0 0, .bool false]) := by
                  rcases hq with ⟨v, M', h1, h2, h3, -, -⟩ | ⟨h1, -⟩
                  · exact absurd h3 (HP.out M' h2)
                  · exact h1
                have HB := Lib.hid (And.intro (HA.out.1.thn hb) (thn HA.out.2 hb))
                clear hq hb HA HP
                go_wp2_with fail
                refine (awake_any wb HB.out.1.g).mono ?_
                rintro e wd ⟨rfl, hb⟩
                have HD := Lib.hid (thn HB.out.2 hb)
                clear hb HB
                go_wp2_with fail
                go_ret
                exact ⟨rfl, HD.out⟩
            · have he : strRes lst = .tuple #[.string ⟨(strR lst).toArray⟩, .int .i64 0] := by unfold strRes; rw [if_neg hbig]
              rw [he]
              obtain ⟨y, hy⟩ : ∃ y : ByteArray, y = ⟨(strR lst).toArray⟩ := ⟨_, rfl⟩
              rw [← hy]
              have hyz : ¬ 20000 < y.size := by
                rw [ba_lenL (l := strR lst) (by rw [hy])]; exact hbig
              have hyd : decide ((20000 : Int) < (y.size : Int)) = false := decide_eq_false (by omega)
              have HYe := Lib.hid hy
              clear he hbig hy hyz
              go_wp2_with fail
              refine (RList_any A1 none c1 0 lst [] w2 H2.out.2.1 (LReads.nil_ _ _ _) HS.out.2.2.1.fit ⟨Nat.zero_le _, fun r hr => by cases hr⟩).mono ?_
              rintro e w3 ⟨rfl, hb⟩
              rw [chkR_nil, HZ.out]
              have H3 := Lib.hid (And.intro (H2.out.1.thn hb) (And.intro (H2.out.2.1.below hb hb.size) (thn H2.out.2.2 hb)))
              clear hb H2
              go_wp2_with fail
              refine (RStringR_any A1 c1 lst w3 H3.out.2.1 HF1.out (by have := HS.out.2.2.2.1; omega)).mono ?_
              rintro e w4 ⟨rfl, hb⟩
              rw [← HYe.out]
              have HW := Lib.hid (And.intro (H3.out.1.thn hb) (thn H3.out.2.2 hb))
              have hyy : (y.toList == y.toList) = true := by simp
              clear hb H3 HF1 HZ HS HYe
              go_wp2_with fail
              obtain ⟨t, ht⟩ : ∃ t : ByteArray, t = s.extract 0 m := ⟨_, rfl⟩
              rw [← ht] at hts ⊢
              clear ht
              refine (ParseR_any t w4 HW.out.1 (by omega)).mono ?_
              rintro e wa ⟨hp, hb⟩
              have HA := Lib.hid (And.intro (HW.out.1.thn hb) (thn HW.out.2 hb))
              clear hb
              rcases hp with ⟨v, M, rfl, h2, h3, h4, h5⟩ | ⟨rfl, hp⟩
              · obtain ⟨A5, c5, rfl, hl5⟩ := OutR.lreads h5
                have HM := Lib.hid (And.intro h2 (And.intro h3 (And.intro h4 hl5)))
                clear h2 h3 h4 h5 hl5
                go_wp2_with fail
                refine (RParseR_any t wa (by omega)).mono ?_
                rintro e wb ⟨hq, hb⟩
                obtain ⟨v, rfl, ho⟩ : ∃ v, e = .returned (.tuple #[v, .bool true]) ∧ OutR wa wb v M := by
                  rcases hq with ⟨v, M', h1, h2, -, -, h5⟩ | ⟨-, h2⟩
                  · have := strIs_one h2 HM.out.1
                    subst this
                    exact ⟨v, h1, h5⟩
                  · exact absurd HM.out.2.1 (h2 M HM.out.1)
                obtain ⟨A6, c6, rfl, hl6⟩ := OutR.lreads ho
                have HB := Lib.hid (And.intro (HA.out.1.thn hb) (And.intro (thn HA.out.2 hb) (And.intro (HM.out.2.2.2.below hb hb.size) hl6)))
                clear hq ho hl6 hb HA
                go_wp2_with fail
                refine (REqual_same A5 A6 c5 c6 M wb HB.out.2.2.1 HB.out.2.2.2 HM.out.2.2.1).mono ?_
                rintro e wc ⟨rfl, hb⟩
                have HC := Lib.hid (And.intro (HB.out.1.thn hb) (thn HB.out.2.1 hb))
                clear hb HB HM
                go_wp2_with fail
                refine (awake_any wc HC.out.1.g).mono ?_
                rintro e wd ⟨rfl, hb⟩
                have HD := Lib.hid (thn HC.out.2 hb)
                clear hb HC
                go_wp2_with fail
                go_ret
                exact ⟨rfl, HD.out⟩
              · have HP := Lib.hid hp
                clear hp
                go_wp2_with fail
                refine (RParseR_any t wa (by omega)).mono ?_
                rintro e wb ⟨hq, hb⟩
                obtain rfl : e = .returned (.tuple #[.slice none 0 0, .bool false]) := by
                  rcases hq with ⟨v, M', h1, h2, h3, -, -⟩ | ⟨h1, -⟩
                  · exact absurd h3 (HP.out M' h2)
                  · exact h1
                have HB := Lib.hid (And.intro (HA.out.1.thn hb) (thn HA.out.2 hb))
                clear hq hb HA HP
                go_wp2_with fail
                refine (awake_any wb HB.out.1.g).mono ?_
                rintro e wd ⟨rfl, hb⟩
                have HD := Lib.hid (thn HB.out.2 hb)
                clear hb HB
                go_wp2_with fail
                go_ret
                exact ⟨rfl, HD.out⟩
          · have HZ := Lib.hid h0
            obtain ⟨q, hq⟩ : ∃ q, q = chkR [lst] := ⟨_, rfl⟩
            have hq0 : (q == 0) = false := beq_eq_false_iff_ne.2 (by rw [hq]; exact h0)
            have hq1 : (q != 0) = true := by rw [hq]; simp [h0]
            have HQ := Lib.hid hq
            clear h0 hq
            go_wp2_with fail
            refine (StringR_err A1 c1 lst wr HS.out.2.1 HS.out.2.2.1 HZ.out).mono ?_
            rintro e w2 ⟨rfl, hb⟩
            rw [← HQ.out]
            have H2 := Lib.hid (And.intro (HS.out.1.thn hb) (And.intro (HS.out.2.1.below hb hb.size) (thn HS.out.2.2.2.2 hb)))
            clear hb
            go_wp2_with fail
            refine (RList_any A1 none c1 0 lst [] w2 H2.out.2.1 (LReads.nil_ _ _ _) HS.out.2.2.1.fit ⟨Nat.zero_le _, fun r hr => by cases hr⟩).mono ?_
            rintro e w3 ⟨rfl, hb⟩
            rw [chkR_nil, ← HQ.out]
            have HW := Lib.hid (And.intro (H2.out.1.thn hb) (thn H2.out.2.2 hb))
            have hqq : (q != q) = false := by simp
            clear hb H2 HZ HQ HS
            go_wp2_with fail
            obtain ⟨t, ht⟩ : ∃ t : ByteArray, t = s.extract 0 m := ⟨_, rfl⟩
            rw [← ht] at hts ⊢
            clear ht
            refine (ParseR_any t w3 HW.out.1 (by omega)).mono ?_
            rintro e wa ⟨hp, hb⟩
            have HA := Lib.hid (And.intro (HW.out.1.thn hb) (thn HW.out.2 hb))
            clear hb
            rcases hp with ⟨v, M, rfl, h2, h3, h4, h5⟩ | ⟨rfl, hp⟩
            · obtain ⟨A5, c5, rfl, hl5⟩ := OutR.lreads h5
              have HM := Lib.hid (And.intro h2 (And.intro h3 (And.intro h4 hl5)))
              clear h2 h3 h4 h5 hl5
              go_wp2_with fail
              refine (RParseR_any t wa (by omega)).mono ?_
              rintro e wb ⟨hq, hb⟩
              obtain ⟨v, rfl, ho⟩ : ∃ v, e = .returned (.tuple #[v, .bool true]) ∧ OutR wa wb v M := by
                rcases hq with ⟨v, M', h1, h2, -, -, h5⟩ | ⟨-, h2⟩
                · have := strIs_one h2 HM.out.1
                  subst this
                  exact ⟨v, h1, h5⟩
                · exact absurd HM.out.2.1 (h2 M HM.out.1)
              obtain ⟨A6, c6, rfl, hl6⟩ := OutR.lreads ho
              have HB := Lib.hid (And.intro (HA.out.1.thn hb) (And.intro (thn HA.out.2 hb) (And.intro (HM.out.2.2.2.below hb hb.size) hl6)))
              clear hq ho hl6 hb HA
              go_wp2_with fail
              refine (REqual_same A5 A6 c5 c6 M wb HB.out.2.2.1 HB.out.2.2.2 HM.out.2.2.1).mono ?_
              rintro e wc ⟨rfl, hb⟩
              have HC := Lib.hid (And.intro (HB.out.1.thn hb) (thn HB.out.2.1 hb))
              clear hb HB HM
              go_wp2_with fail
              refine (awake_any wc HC.out.1.g).mono ?_
              rintro e wd ⟨rfl, hb⟩
              have HD := Lib.hid (thn HC.out.2 hb)
              clear hb HC
              go_wp2_with fail
              go_ret
              exact ⟨rfl, HD.out⟩
            · have HP := Lib.hid hp
              clear hp
              go_wp2_with fail
              refine (RParseR_any t wa (by omega)).mono ?_
              rintro e wb ⟨hq, hb⟩
              obtain rfl : e = .returned (.tuple #[.slice none 0 0, .bool false]) := by
                rcases hq with ⟨v, M', h1, h2, h3, -, -⟩ | ⟨h1, -⟩
                · exact absurd h3 (HP.out M' h2)
                · exact h1
              have HB := Lib.hid (And.intro (HA.out.1.thn hb) (thn HA.out.2 hb))
              clear hq hb HA HP
              go_wp2_with fail
              refine (awake_any wb HB.out.1.g).mono ?_
              rintro e wd ⟨rfl, hb⟩
              have HD := Lib.hid (thn HB.out.2 hb)
              clear hb HB
              go_wp2_with fail
              go_ret
              exact ⟨rfl, HD.out⟩
    · have h0d : decide ((0 : Int) < (lst.length : Int)) = false := decide_eq_false (by omega)
      have h0n : ¬ 0 < lst.length := h0
      obtain ⟨A1, c1, rfl, hl1⟩ := OutR.lreads ⟨vs, ho, hrs⟩
      have HS := Lib.hid (And.intro (HG.out.thn hb) (And.intro hl1 (And.intro HI.out (And.intro (show lst.length ≤ 600 by omega) hb))))
      clear hl1 ho hrs hap hb HI HA HG
      clear hl60 h0
      go_wp2_with fail
      by_cases h0 : chkR [lst] = 0
      · have f1 := fine_of h0 (L := lst) (by simp) HS.out.2.2.1
        have HF1 : Hid (∀ r ∈ lst, r.length ≤ 16 ∧ ∀ v ∈ r, v.fine) := Lib.hid fun r hr => ⟨f1.2.2 r hr, (f1.1 r hr).2⟩
        have HZ := Lib.hid h0
        clear f1 h0
        go_wp2_with fail
        refine (StringR_ok A1 c1 lst w1 HS.out.1.g HS.out.2.1 HS.out.2.2.1 HZ.out).mono ?_
        rintro e w2 ⟨rfl, hb⟩
        have H2 := Lib.hid (And.intro (HS.out.1.thn hb) (And.intro (HS.out.2.1.below hb hb.size) (thn HS.out.2.2.2.2 hb)))
        clear hb
        by_cases hbig : 20000 < (strR lst).length
        · have he : strRes lst = .tuple #[.string ⟨#[]⟩, .int .i64 2] := by unfold strRes; rw [if_pos hbig]
          rw [he]
          have HG2 := Lib.hid hbig
          clear he hbig
          go_wp2_with fail
          refine (RList_any A1 none c1 0 lst [] w2 H2.out.2.1 (LReads.nil_ _ _ _) HS.out.2.2.1.fit ⟨Nat.zero_le _, fun r hr => by cases hr⟩).mono ?_
          rintro e w3 ⟨rfl, hb⟩
          rw [chkR_nil, HZ.out]
          have H3 := Lib.hid (And.intro (H2.out.1.thn hb) (And.intro (H2.out.2.1.below hb hb.size) (thn H2.out.2.2 hb)))
          clear hb H2
          go_wp2_with fail
          refine (RStringR_any A1 c1 lst w3 H3.out.2.1 HF1.out (by have := HS.out.2.2.2.1; omega)).mono ?_
          rintro e w4 ⟨rfl, hb⟩
          have HW := Lib.hid (And.intro (H3.out.1.thn hb) (thn H3.out.2.2 hb))
          obtain ⟨y, hy⟩ : ∃ y : ByteArray, y = ⟨(strR lst).toArray⟩ := ⟨_, rfl⟩
          rw [← hy]
          have hyz : 20000 < y.size := by
            rw [ba_lenL (l := strR lst) (by rw [hy])]; exact HG2.out
          have hyd : decide ((20000 : Int) < (y.size : Int)) = true := decide_eq_true (by omega)
          clear hb H3 HG2 hy hyz HF1 HZ HS
          go_wp2_with fail
          obtain ⟨t, ht⟩ : ∃ t : ByteArray, t = s.extract 0 m := ⟨_, rfl⟩
          rw [← ht] at hts ⊢
          clear ht
          refine (ParseR_any t w4 HW.out.1 (by omega)).mono ?_
          rintro e wa ⟨hp, hb⟩
          have HA := Lib.hid (And.intro (HW.out.1.thn hb) (thn HW.out.2 hb))
          clear hb
          rcases hp with ⟨v, M, rfl, h2, h3, h4, h5⟩ | ⟨rfl, hp⟩
          · obtain ⟨A5, c5, rfl, hl5⟩ := OutR.lreads h5
            have HM := Lib.hid (And.intro h2 (And.intro h3 (And.intro h4 hl5)))
            clear h2 h3 h4 h5 hl5
            go_wp2_with fail
            refine (RParseR_any t wa (by omega)).mono ?_
            rintro e wb ⟨hq, hb⟩
            obtain ⟨v, rfl, ho⟩ : ∃ v, e = .returned (.tuple #[v, .bool true]) ∧ OutR wa wb v M := by
              rcases hq with ⟨v, M', h1, h2, -, -, h5⟩ | ⟨-, h2⟩
              · have := strIs_one h2 HM.out.1
                subst this
                exact ⟨v, h1, h5⟩
              · exact absurd HM.out.2.1 (h2 M HM.out.1)
            obtain ⟨A6, c6, rfl, hl6⟩ := OutR.lreads ho
            have HB := Lib.hid (And.intro (HA.out.1.thn hb) (And.intro (thn HA.out.2 hb) (And.intro (HM.out.2.2.2.below hb hb.size) hl6)))
            clear hq ho hl6 hb HA
            go_wp2_with fail
            refine (REqual_same A5 A6 c5 c6 M wb HB.out.2.2.1 HB.out.2.2.2 HM.out.2.2.1).mono ?_
            rintro e wc ⟨rfl, hb⟩
            have HC := Lib.hid (And.intro (HB.out.1.thn hb) (thn HB.out.2.1 hb))
            clear hb HB HM
            go_wp2_with fail
            refine (awake_any wc HC.out.1.g).mono ?_
            rintro e wd ⟨rfl, hb⟩
            have HD := Lib.hid (thn HC.out.2 hb)
            clear hb HC
            go_wp2_with fail
            go_ret
            exact ⟨rfl, HD.out⟩
          · have HP := Lib.hid hp
            clear hp
            go_wp2_with fail
            refine (RParseR_any t wa (by omega)).mono ?_
            rintro e wb ⟨hq, hb⟩
            obtain rfl : e = .returned (.tuple #[.slice none 0 0, .bool false]) := by
              rcases hq with ⟨v, M', h1, h2, h3, -, -⟩ | ⟨h1, -⟩
              · exact absurd h3 (HP.out M' h2)
              · exact h1
            have HB := Lib.hid (And.intro (HA.out.1.thn hb) (thn HA.out.2 hb))
            clear hq hb HA HP
            go_wp2_with fail
            refine (awake_any wb HB.out.1.g).mono ?_
            rintro e wd ⟨rfl, hb⟩
            have HD := Lib.hid (thn HB.out.2 hb)
            clear hb HB
            go_wp2_with fail
            go_ret
            exact ⟨rfl, HD.out⟩
        · have he : strRes lst = .tuple #[.string ⟨(strR lst).toArray⟩, .int .i64 0] := by unfold strRes; rw [if_neg hbig]
          rw [he]
          obtain ⟨y, hy⟩ : ∃ y : ByteArray, y = ⟨(strR lst).toArray⟩ := ⟨_, rfl⟩
          rw [← hy]
          have hyz : ¬ 20000 < y.size := by
            rw [ba_lenL (l := strR lst) (by rw [hy])]; exact hbig
          have hyd : decide ((20000 : Int) < (y.size : Int)) = false := decide_eq_false (by omega)
          have HYe := Lib.hid hy
          clear he hbig hy hyz
          go_wp2_with fail
          refine (RList_any A1 none c1 0 lst [] w2 H2.out.2.1 (LReads.nil_ _ _ _) HS.out.2.2.1.fit ⟨Nat.zero_le _, fun r hr => by cases hr⟩).mono ?_
          rintro e w3 ⟨rfl, hb⟩
          rw [chkR_nil, HZ.out]
          have H3 := Lib.hid (And.intro (H2.out.1.thn hb) (And.intro (H2.out.2.1.below hb hb.size) (thn H2.out.2.2 hb)))
          clear hb H2
          go_wp2_with fail
          refine (RStringR_any A1 c1 lst w3 H3.out.2.1 HF1.out (by have := HS.out.2.2.2.1; omega)).mono ?_
          rintro e w4 ⟨rfl, hb⟩
          rw [← HYe.out]
          have HW := Lib.hid (And.intro (H3.out.1.thn hb) (thn H3.out.2.2 hb))
          have hyy : (y.toList == y.toList) = true := by simp
          clear hb H3 HF1 HZ HS HYe
          go_wp2_with fail
          obtain ⟨t, ht⟩ : ∃ t : ByteArray, t = s.extract 0 m := ⟨_, rfl⟩
          rw [← ht] at hts ⊢
          clear ht
          refine (ParseR_any t w4 HW.out.1 (by omega)).mono ?_
          rintro e wa ⟨hp, hb⟩
          have HA := Lib.hid (And.intro (HW.out.1.thn hb) (thn HW.out.2 hb))
          clear hb
          rcases hp with ⟨v, M, rfl, h2, h3, h4, h5⟩ | ⟨rfl, hp⟩
          · obtain ⟨A5, c5, rfl, hl5⟩ := OutR.lreads h5
            have HM := Lib.hid (And.intro h2 (And.intro h3 (And.intro h4 hl5)))
            clear h2 h3 h4 h5 hl5
            go_wp2_with fail
            refine (RParseR_any t wa (by omega)).mono ?_
            rintro e wb ⟨hq, hb⟩
            obtain ⟨v, rfl, ho⟩ : ∃ v, e = .returned (.tuple #[v, .bool true]) ∧ OutR wa wb v M := by
              rcases hq with ⟨v, M', h1, h2, -, -, h5⟩ | ⟨-, h2⟩
              · have := strIs_one h2 HM.out.1
                subst this
                exact ⟨v, h1, h5⟩
              · exact absurd HM.out.2.1 (h2 M HM.out.1)
            obtain ⟨A6, c6, rfl, hl6⟩ := OutR.lreads ho
            have HB := Lib.hid (And.intro (HA.out.1.thn hb) (And.intro (thn HA.out.2 hb) (And.intro (HM.out.2.2.2.below hb hb.size) hl6)))
            clear hq ho hl6 hb HA
            go_wp2_with fail
            refine (REqual_same A5 A6 c5 c6 M wb HB.out.2.2.1 HB.out.2.2.2 HM.out.2.2.1).mono ?_
            rintro e wc ⟨rfl, hb⟩
            have HC := Lib.hid (And.intro (HB.out.1.thn hb) (thn HB.out.2.1 hb))
            clear hb HB HM
            go_wp2_with fail
            refine (awake_any wc HC.out.1.g).mono ?_
            rintro e wd ⟨rfl, hb⟩
            have HD := Lib.hid (thn HC.out.2 hb)
            clear hb HC
            go_wp2_with fail
            go_ret
            exact ⟨rfl, HD.out⟩
          · have HP := Lib.hid hp
            clear hp
            go_wp2_with fail
            refine (RParseR_any t wa (by omega)).mono ?_
            rintro e wb ⟨hq, hb⟩
            obtain rfl : e = .returned (.tuple #[.slice none 0 0, .bool false]) := by
              rcases hq with ⟨v, M', h1, h2, h3, -, -⟩ | ⟨h1, -⟩
              · exact absurd h3 (HP.out M' h2)
              · exact h1
            have HB := Lib.hid (And.intro (HA.out.1.thn hb) (thn HA.out.2 hb))
            clear hq hb HA HP
            go_wp2_with fail
            refine (awake_any wb HB.out.1.g).mono ?_
            rintro e wd ⟨rfl, hb⟩
            have HD := Lib.hid (thn HB.out.2 hb)
            clear hb HB
            go_wp2_with fail
            go_ret
            exact ⟨rfl, HD.out⟩
      · have HZ := Lib.hid h0
        obtain ⟨q, hq⟩ : ∃ q, q = chkR [lst] := ⟨_, rfl⟩
        have hq0 : (q == 0) = false := beq_eq_false_iff_ne.2 (by rw [hq]; exact h0)
        have hq1 : (q != 0) = true := by rw [hq]; simp [h0]
        have HQ := Lib.hid hq
        clear h0 hq
        go_wp2_with fail
        refine (StringR_err A1 c1 lst w1 HS.out.2.1 HS.out.2.2.1 HZ.out).mono ?_
        rintro e w2 ⟨rfl, hb⟩
        rw [← HQ.out]
        have H2 := Lib.hid (And.intro (HS.out.1.thn hb) (And.intro (HS.out.2.1.below hb hb.size) (thn HS.out.2.2.2.2 hb)))
        clear hb
        go_wp2_with fail
        refine (RList_any A1 none c1 0 lst [] w2 H2.out.2.1 (LReads.nil_ _ _ _) HS.out.2.2.1.fit ⟨Nat.zero_le _, fun r hr => by cases hr⟩).mono ?_
        rintro e w3 ⟨rfl, hb⟩
        rw [chkR_nil, ← HQ.out]
        have HW := Lib.hid (And.intro (H2.out.1.thn hb) (thn H2.out.2.2 hb))
        have hqq : (q != q) = false := by simp
        clear hb H2 HZ HQ HS
        go_wp2_with fail
        obtain ⟨t, ht⟩ : ∃ t : ByteArray, t = s.extract 0 m := ⟨_, rfl⟩
        rw [← ht] at hts ⊢
        clear ht
        refine (ParseR_any t w3 HW.out.1 (by omega)).mono ?_
        rintro e wa ⟨hp, hb⟩
        have HA := Lib.hid (And.intro (HW.out.1.thn hb) (thn HW.out.2 hb))
        clear hb
        rcases hp with ⟨v, M, rfl, h2, h3, h4, h5⟩ | ⟨rfl, hp⟩
        · obtain ⟨A5, c5, rfl, hl5⟩ := OutR.lreads h5
          have HM := Lib.hid (And.intro h2 (And.intro h3 (And.intro h4 hl5)))
          clear h2 h3 h4 h5 hl5
          go_wp2_with fail
          refine (RParseR_any t wa (by omega)).mono ?_
          rintro e wb ⟨hq, hb⟩
          obtain ⟨v, rfl, ho⟩ : ∃ v, e = .returned (.tuple #[v, .bool true]) ∧ OutR wa wb v M := by
            rcases hq with ⟨v, M', h1, h2, -, -, h5⟩ | ⟨-, h2⟩
            · have := strIs_one h2 HM.out.1
              subst this
              exact ⟨v, h1, h5⟩
            · exact absurd HM.out.2.1 (h2 M HM.out.1)
          obtain ⟨A6, c6, rfl, hl6⟩ := OutR.lreads ho
          have HB := Lib.hid (And.intro (HA.out.1.thn hb) (And.intro (thn HA.out.2 hb) (And.intro (HM.out.2.2.2.below hb hb.size) hl6)))
          clear hq ho hl6 hb HA
          go_wp2_with fail
          refine (REqual_same A5 A6 c5 c6 M wb HB.out.2.2.1 HB.out.2.2.2 HM.out.2.2.1).mono ?_
          rintro e wc ⟨rfl, hb⟩
          have HC := Lib.hid (And.intro (HB.out.1.thn hb) (thn HB.out.2.1 hb))
          clear hb HB HM
          go_wp2_with fail
          refine (awake_any wc HC.out.1.g).mono ?_
          rintro e wd ⟨rfl, hb⟩
          have HD := Lib.hid (thn HC.out.2 hb)
          clear hb HC
          go_wp2_with fail
          go_ret
          exact ⟨rfl, HD.out⟩
        · have HP := Lib.hid hp
          clear hp
          go_wp2_with fail
          refine (RParseR_any t wa (by omega)).mono ?_
          rintro e wb ⟨hq, hb⟩
          obtain rfl : e = .returned (.tuple #[.slice none 0 0, .bool false]) := by
            rcases hq with ⟨v, M', h1, h2, h3, -, -⟩ | ⟨h1, -⟩
            · exact absurd h3 (HP.out M' h2)
            · exact h1
          have HB := Lib.hid (And.intro (HA.out.1.thn hb) (thn HA.out.2 hb))
          clear hq hb HA HP
          go_wp2_with fail
          refine (awake_any wb HB.out.1.g).mono ?_
          rintro e wd ⟨rfl, hb⟩
          have HD := Lib.hid (thn HB.out.2 hb)
          clear hb HB
          go_wp2_with fail
          go_ret
          exact ⟨rfl, HD.out⟩
end Go.Proofs.YtapnnheggjahlaaGreatDoor
