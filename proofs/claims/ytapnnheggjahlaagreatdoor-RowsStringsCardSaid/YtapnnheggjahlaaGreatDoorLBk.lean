/-
  THE WALK of RowsBack: rows are read back from their string, a string from its rows.
-/
import Derived.Test.YtapnnheggjahlaaGreatDoorGT
import Derived.Test.YtapnnheggjahlaaGreatDoorNice
import Derived.Test.YtapnnheggjahlaaGreatDoorGO
namespace Go.Proofs.YtapnnheggjahlaaGreatDoor
open Go.RowKit

theorem nice_strV {v : V} (h : NiceV v) : (strV v).length ≤ 20 := by
  unfold strV strB
  obtain ⟨h1, h2, h3⟩ := h
  rcases ok_cases h1 with ⟨a, b, c⟩ | ⟨a, c⟩ | ⟨a, b, c⟩ | ⟨a, b, c⟩ | ⟨a, b, c⟩
  · rw [a, if_neg (by decide), if_neg (by decide), if_pos rfl]; decide
  · rw [a, if_pos rfl]
    exact (itoa_len v.n h2).1
  · rw [a, b, if_neg (by decide), if_neg (by decide), if_neg (by decide), if_pos rfl]; decide
  · rw [a, b, if_neg (by decide), if_neg (by decide), if_neg (by decide), if_neg (by decide)]; decide
  · rw [a, if_neg (by decide), if_pos rfl, all_quote]
    have h4 := quote_len v.s.data.toList
    have h5 : v.s.data.toList.length = v.s.size := Array.length_toList
    simp only [List.length_cons, List.length_append, List.length_nil]
    omega
theorem nice_rowS {r : List V} (h : NiceR r) : (rowS r).length ≤ 70 := by
  obtain ⟨h1, h2⟩ := h
  match r, h1, h2 with
  | [a, b, c], _, h2 =>
    have e1 := nice_strV (h2 a (by simp))
    have e2 := nice_strV (h2 b (by simp))
    have e3 := nice_strV (h2 c (by simp))
    rw [rowS_body]
    simp only [body, List.flatMap_cons, List.flatMap_nil, List.length_cons, List.length_append, List.length_nil]
    omega
theorem nice_strR {L : List (List V)} (h : ∀ r ∈ L, NiceR r) : (strR L).length ≤ 71 * L.length := by
  induction L with
  | nil => exact Nat.zero_le _
  | cons r L ih =>
    have h1 := ih fun q hq => h q (List.mem_cons_of_mem _ hq)
    have h2 := nice_rowS (h r (List.mem_cons_self ..))
    rw [strR_cons, List.length_append, List.length_cons, List.length_cons]
    omega
theorem NiceL.str {m : Nat} {L : List (List V)} (h : NiceL m L) : StrIs (strR L) L := ⟨fun r hr v hv => ⟨((h.2 r hr).2 v hv).1, ((h.2 r hr).2 v hv).2.1⟩, rfl⟩
theorem ext_min (s : ByteArray) (m : Nat) : (s.extract 0 (min s.size m)).size ≤ m := by rw [ByteArray.size_extract]; omega
set_option maxHeartbeats 4000000 in
set_option maxRecDepth 100000 in
theorem RowsBack_any (A : Option Addr) (c : Nat) (L : List (List V)) (s : ByteArray) (w : World) (hG : GE w) (hl : LReads0 w w.heap.size A L) (hL : InL L) (hs : s.size ≤ maxLen) :
    Calls Tryz.prog 12 #[.slice A L.length c, .string s] w fun e w' => e = .returned (.bool true) ∧ Below w.heap.size w w' := by
  have HF := Lib.hid hL
  have H0 := Lib.hid (And.intro hG hl)
  have hs := Nat.le_trans hs (Nat.le_refl _)
  unfold maxLen at hs
  clear hG hl hL
  go_enter Tryz.func12, Tryz.ntmps12
  go_wp2_with fail
  refine (some_any A c L 20 w H0.out.2 HF.out (by omega)).mono ?_
  rintro e w1 ⟨A1, c1, a, rfl, -, hn, -, hl, hb⟩
  have S1 := Lib.hid (And.intro (H0.out.1.thn hb) (And.intro hl (thn (Below.refl w.heap.size w) hb)))
  have Na := Lib.hid hn
  have hal : a.length ≤ 20 := hn.1
  have hsz : (strR a).length ≤ 1420 := by have := nice_strR hn.2; omega
  have HE : Hid (strRes a = .tuple #[.string ⟨(strR a).toArray⟩, .int .i64 0]) := Lib.hid (by unfold strRes; rw [if_neg (by omega)])
  clear hn hl hb H0 HF
  go_wp2_with fail
  refine (StringR_ok A1 c1 a w1 S1.out.1.g S1.out.2.1 (Na.out.inL (by unfold maxLen; omega)) (Na.out.chk (by omega))).mono ?_
  rintro e w2 ⟨rfl, hb⟩
  rw [HE.out]
  have S2 := Lib.hid (And.intro (S1.out.1.thn hb) (And.intro (S1.out.2.1.below hb hb.size) (thn S1.out.2.2 hb)))
  obtain ⟨y, hy⟩ : ∃ y : ByteArray, y = ⟨(strR a).toArray⟩ := ⟨_, rfl⟩
  rw [← hy]
  have hyl : y.data.toList = strR a := by rw [hy]
  have hys : y.size ≤ 20000 := by rw [ba_lenL hyl]; omega
  have HY := Lib.hid hyl
  clear hb HE hy hyl hsz S1
  go_wp2_with fail
  refine (ParseR_any y w2 S2.out.1 hys).mono ?_
  rintro e w3 ⟨hp, hb⟩
  obtain ⟨v, rfl, ho⟩ : ∃ v, e = .returned (.tuple #[v, .int .i64 0]) ∧ OutR w2 w3 v a := by
    rcases hp with ⟨v, M, h1, h2, -, -, h5⟩ | ⟨-, h2⟩
    · rw [HY.out] at h2
      have := strIs_one h2 Na.out.str
      subst this
      exact ⟨v, h1, h5⟩
    · exact absurd (Na.out.chk (by omega)) (h2 a (by rw [HY.out]; exact Na.out.str))
  obtain ⟨A3, c3, rfl, hl3⟩ := OutR.lreads ho
  have S3 := Lib.hid (And.intro (S2.out.1.thn hb) (And.intro (S2.out.2.1.below hb hb.size) (And.intro hl3 (thn S2.out.2.2 hb))))
  clear hp ho hl3 hb S2 HY hys
  have haa : decide (a = a) = true := by simp
  go_wp2_with fail
  refine (REqual_nice A3 A1 c3 c1 20 20 a a w3 S3.out.2.2.1 S3.out.2.1 Na.out Na.out (by omega)).mono ?_
  rintro e w4 ⟨rfl, hb⟩
  have S4 := Lib.hid (And.intro (S3.out.1.thn hb) (thn S3.out.2.2.2 hb))
  clear hb S3
  obtain ⟨m, hm⟩ : ∃ m : Nat, m = min s.size 2000 := ⟨_, rfl⟩
  have hmi : min (s.size : Int) 2000 = (m : Int) := by omega
  have hms : (m : Int) ≤ (s.size : Int) := by omega
  have hm2 : m ≤ 2000 := by omega
  have hts : (s.extract 0 m).size ≤ 2000 := by rw [ByteArray.size_extract]; omega
  clear hm
  go_wp2_with fail
  obtain ⟨t, ht⟩ : ∃ t : ByteArray, t = s.extract 0 m := ⟨_, rfl⟩
  rw [← ht] at hts ⊢
  clear ht
  refine (ParseR_any t w4 S4.out.1 (by omega)).mono ?_
  rintro e w5 ⟨hp, hb⟩
  have S5 := Lib.hid (And.intro (S4.out.1.thn hb) (thn S4.out.2 hb))
  rcases hp with ⟨v, M, rfl, h2, h3, h4, h5⟩ | ⟨rfl, -⟩
  · obtain ⟨A5, c5, rfl, hl5⟩ := OutR.lreads h5
    have HM := Lib.hid (And.intro h2.2 (And.intro h3 (And.intro h4 hl5)))
    have htl : t.data.toList.length = t.size := Array.length_toList
    have HE : Hid (strRes M = .tuple #[.string t, .int .i64 0]) := Lib.hid (by
      unfold strRes
      rw [h2.2, if_neg (by omega), ba_of])
    clear h2 h3 h4 h5 hl5 hb S4
    go_wp2_with fail
    refine (StringR_ok A5 c5 M w5 S5.out.1.g HM.out.2.2.2 HM.out.2.2.1 HM.out.2.1).mono ?_
    rintro e w6 ⟨rfl, hb⟩
    rw [HE.out]
    have S6 := Lib.hid (And.intro (S5.out.1.thn hb) (thn S5.out.2 hb))
    have hte : (t.toList == t.toList) = true := by simp
    clear hb HE S5
    go_wp2_with fail
    refine (awake_any w6 S6.out.1.g).mono ?_
    rintro e w7 ⟨rfl, hb⟩
    have S7 := Lib.hid (thn S6.out.2 hb)
    clear hb
    go_wp2_with fail
    go_ret
    exact ⟨rfl, S7.out⟩
  · clear hb S4
    go_wp2_with fail
    refine (awake_any w5 S5.out.1.g).mono ?_
    rintro e w7 ⟨rfl, hb⟩
    have S7 := Lib.hid (thn S5.out.2 hb)
    clear hb
    go_wp2_with fail
    go_ret
    exact ⟨rfl, S7.out⟩
end Go.Proofs.YtapnnheggjahlaaGreatDoor
