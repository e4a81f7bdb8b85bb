/-
  CONTRACTS of package value: String of a right value; Parse.
-/
import Derived.Test.YtmhddoikicapjaaGreatDoorVal9
import Derived.Lib.ParseIntBTie
namespace Go.Proofs.YtmhddoikicapjaaGreatDoor
open Go.RowKit

theorem chk_one (v : V) : chk [v] = if v.ok = true then 0 else 10 := by
  unfold chk
  rw [if_neg (by simp)]
  simp
theorem chk_one_ok {v : V} (h : v.ok = true) : chk [v] = 0 := by rw [chk_one, if_pos h]
theorem chk_one_bad {v : V} (h : v.ok = false) : chk [v] = 10 := by rw [chk_one, h]; rfl

/-- an int64 -/
def I64 (n : Int) : Prop := -9223372036854775808 ≤ n ∧ n ≤ 9223372036854775807

theorem ok_cases {k n : Int} {s : ByteArray} (h : okVal k n s.data.toList = true) :
    (k = 0 ∧ n = 0 ∧ s = ⟨#[]⟩) ∨ (k = 1 ∧ s = ⟨#[]⟩) ∨ (k = 2 ∧ n = 0 ∧ s = ⟨#[]⟩) ∨ (k = 2 ∧ n = 1 ∧ s = ⟨#[]⟩) ∨ (k = 3 ∧ n = 0 ∧ okText s.data.toList = true) := by
  obtain ⟨⟨l⟩⟩ := s
  unfold okVal at h
  split at h
  · simp at h; obtain ⟨h1, h2⟩ := h; subst h1; subst h2; left; exact ⟨‹_›, rfl, rfl⟩
  · split at h
    · simp at h; subst h; right; left; exact ⟨‹_›, rfl⟩
    · split at h
      · simp at h; obtain ⟨h1, h2⟩ := h; subst h2
        rcases h1 with h1 | h1
        · right; right; left; exact ⟨‹_›, h1, rfl⟩
        · right; right; right; left; exact ⟨‹_›, h1, rfl⟩
      · split at h
        · simp at h; right; right; right; right; exact ⟨‹_›, h.1, h.2⟩
        · cases h
theorem okText_size {s : ByteArray} (h : okText s.data.toList = true) : s.size ≤ 200 := by
  unfold okText at h
  simp at h
  exact h.1

theorem String_right (k n : Int) (s : ByteArray) (w : World) (hG : G w) (h0 : okVal k n s.data.toList = true) (hn : I64 n) :
    Calls Tryz.prog 25 #[.agg #[.int .i64 k, .int .i64 n, .string s]] w fun e w' => e = .returned (.tuple #[.string ⟨(strB k n s).toArray⟩, .int .i64 0]) ∧ Below w.heap.size w w' := by
  have hc : chk [⟨k, n, s⟩] = 0 := chk_one_ok h0
  rcases ok_cases h0 with ⟨rfl, rfl, rfl⟩ | ⟨rfl, rfl⟩ | ⟨rfl, rfl, rfl⟩ | ⟨rfl, rfl, rfl⟩ | ⟨rfl, rfl, ht⟩
  · exact String_word _ _ _ sNull w hG (by simp [maxLen, ByteArray.size]) hc (.inl ⟨rfl, rfl, rfl⟩)
  · exact String_int n _ w hG (by simp [maxLen, ByteArray.size]) hc hn.1 hn.2
  · exact String_word _ _ _ sFalse w hG (by simp [maxLen, ByteArray.size]) hc (.inr (.inl ⟨rfl, rfl, rfl⟩))
  · exact String_word _ _ _ sTrue w hG (by simp [maxLen, ByteArray.size]) hc (.inr (.inr ⟨rfl, rfl, rfl⟩))
  · exact String_text _ s w hG (by have := okText_size ht; omega) hc

theorem numV_i64 (s : ByteArray) : I64 (numV s) := by
  unfold numV I64
  split
  · rename_i v h
    have := Lib.parseIntB_bounds h
    omega
  · unfold Lib.intSat
    split <;> omega
  · omega
theorem readV_i64 (s : ByteArray) : I64 (readV s).n := by
  unfold readV
  split
  · exact ⟨by decide, by decide⟩
  · split
    · exact ⟨by decide, by decide⟩
    · split
      · exact ⟨by decide, by decide⟩
      · split
        · exact ⟨by decide, by decide⟩
        · split
          · show I64 0; exact ⟨by decide, by decide⟩
          · exact numV_i64 s
theorem textV_size (s : ByteArray) : (textV s).size ≤ 2 * s.size := by
  have e1 : s.data.toList.length = s.size := Array.length_toList
  have h1 := trimPrefix_len s.data.toList [39]
  have h2 := trimSuffix_len (Lib.trimPrefix s.data.toList [39]) [39]
  have h3 := replaceAll_len ⟨(Lib.trimSuffix (Lib.trimPrefix s.data.toList [39]) [39]).toArray⟩ ⟨#[39, 39]⟩ ⟨#[39]⟩ (by decide)
  have e2 : (⟨(Lib.trimSuffix (Lib.trimPrefix s.data.toList [39]) [39]).toArray⟩ : ByteArray).size = (Lib.trimSuffix (Lib.trimPrefix s.data.toList [39]) [39]).length := by simp [ByteArray.size]
  have e3 : (⟨#[39]⟩ : ByteArray).size = 1 := rfl
  rw [e2, e3] at h3
  have e4 : (textV s).size = (Lib.replaceAll (Lib.trimSuffix (Lib.trimPrefix s.data.toList [39]) [39]) [39, 39] [39]).length := by simp [textV, ByteArray.size]
  rw [e4]
  have h4 : (Lib.replaceAll (Lib.trimSuffix (Lib.trimPrefix s.data.toList [39]) [39]) [39, 39] [39]).length ≤ _ := h3
  omega
theorem readV_size (s : ByteArray) : (readV s).s.size ≤ 2 * s.size := by
  have h0 : (⟨#[]⟩ : ByteArray).size = 0 := rfl
  unfold readV
  split
  · show (⟨#[]⟩ : ByteArray).size ≤ _; omega
  · split
    · show (⟨#[]⟩ : ByteArray).size ≤ _; omega
    · split
      · show (⟨#[]⟩ : ByteArray).size ≤ _; omega
      · split
        · show (⟨#[]⟩ : ByteArray).size ≤ _; omega
        · split
          · exact textV_size s
          · show (⟨#[]⟩ : ByteArray).size ≤ _; omega

/-- does Parse take this string? -/
def parses (s : ByteArray) : Bool := (readV s).ok && ((⟨(strB (readV s).k (readV s).n (readV s).s).toArray⟩ : ByteArray).toList == s.toList)

set_option maxHeartbeats 400000 in
theorem Parse_long (s : ByteArray) (w : World) (hs : s.size ≤ maxLen) (hl : ¬ s.size ≤ 20000) :
    Calls Tryz.prog 27 #[.string s] w fun e w' => e = .returned (.tuple #[.agg #[.int .i64 0, .int .i64 0, .string ⟨#[]⟩], .int .i64 2]) ∧ Below w.heap.size w w' := by
  unfold maxLen at hs
  have hsz : decide ((20000 : Int) < (s.size : Int)) = true := by simp; omega
  go_enter Tryz.func27, Tryz.ntmps27
  go_wp2_with fail
  exact bodyPost_ret (v := .tuple #[.agg #[.int .i64 0, .int .i64 0, .string ⟨#[]⟩], .int .i64 2]) (by simp [results, Tryz.results27, go_sem]) rfl ⟨rfl, al (Below.refl _ _) _⟩

set_option maxHeartbeats 400000 in
theorem Parse_yes (s : ByteArray) (w : World) (hG : G w) (hl : s.size ≤ 20000) (hp : parses s = true) :
    Calls Tryz.prog 27 #[.string s] w fun e w' => e = .returned (.tuple #[.agg #[.int .i64 (readV s).k, .int .i64 (readV s).n, .string (readV s).s], .int .i64 0]) ∧ Below w.heap.size w w' := by
  have hsz : decide ((20000 : Int) < (s.size : Int)) = false := by simp; omega
  have HS := Lib.hid hl
  have HG := Lib.hid hG
  have HI := Lib.hid (readV_i64 s)
  unfold parses at hp
  rw [Bool.and_eq_true] at hp
  have HO := Lib.hid hp.1
  have hq := hp.2
  clear hl hG hp
  go_enter Tryz.func27, Tryz.ntmps27
  go_wp2_with fail
  refine (read_any s _ (HG.out.thn (al (Below.refl _ _) _)) (by have := HS.out; omega)).mono ?_
  rintro e w1 ⟨rfl, hb1⟩
  have R1 := (Blk.new' (w := w) (g := w.heap.size) (t := 35) (cs := #[.int .i64 0, .int .i64 0, .string ⟨#[]⟩]) rfl).below hb1 (by simp)
  have W1 := Lib.hid (thn (al (Below.refl _ w) _) hb1)
  have hz1 := hb1.size
  simp at hz1
  clear hb1
  have HO' : Hid (okVal (readV s).k (readV s).n (readV s).s.data.toList = true) := HO.out
  go_wp2_with fail
  refine (String_right _ _ _ _ (HG.out.thn (al W1.out _)) HO'.out HI.out).mono ?_
  rintro e w2 ⟨rfl, hb2⟩
  have V1 := (Blk.new' (w := w1) (g := w1.heap.size) (t := 35) (cs := #[.int .i64 (readV s).k, .int .i64 (readV s).n, .string (readV s).s]) rfl).below hb2 (by simp)
  obtain ⟨⟨v0, v1, v2⟩, vx⟩ := V1.three
  obtain ⟨⟨r0, r1, r2⟩, f0, f1, f2⟩ := ((R1.alloc _).below hb2 (by simp <;> omega)).three
  have W2 := Lib.hid (thn (al W1.out _) hb2)
  generalize (⟨(strB (readV s).k (readV s).n (readV s).s).toArray⟩ : ByteArray) = x at *
  have hne : (!(x.toList == s.toList)) = false := by rw [hq]; rfl
  clear vx hb2 V1 R1
  go_wp2_with fail
  exact bodyPost_ret (v := .tuple #[.agg #[.int .i64 (readV s).k, .int .i64 (readV s).n, .string (readV s).s], .int .i64 0]) (by simp [results, Tryz.results27, go_sem, r0, r1, r2]) rfl ⟨rfl, st3 W2.out (Nat.le_refl _) _ _ _⟩

set_option maxHeartbeats 400000 in
theorem Parse_no (s : ByteArray) (w : World) (hG : G w) (hl : s.size ≤ 20000) (hp : parses s = false) :
    Calls Tryz.prog 27 #[.string s] w fun e w' => e = .returned (.tuple #[.agg #[.int .i64 0, .int .i64 0, .string ⟨#[]⟩], .int .i64 10]) ∧ Below w.heap.size w w' := by
  have hsz : decide ((20000 : Int) < (s.size : Int)) = false := by simp; omega
  have HS := Lib.hid hl
  have HG := Lib.hid hG
  have HI := Lib.hid (readV_i64 s)
  have HP := Lib.hid hp
  clear hl hG hp
  go_enter Tryz.func27, Tryz.ntmps27
  go_wp2_with fail
  refine (read_any s _ (HG.out.thn (al (Below.refl _ _) _)) (by have := HS.out; omega)).mono ?_
  rintro e w1 ⟨rfl, hb1⟩
  have R1 := (Blk.new' (w := w) (g := w.heap.size) (t := 35) (cs := #[.int .i64 0, .int .i64 0, .string ⟨#[]⟩]) rfl).below hb1 (by simp)
  have W1 := Lib.hid (thn (al (Below.refl _ w) _) hb1)
  have hz1 := hb1.size
  simp at hz1
  clear hb1
  by_cases ho : (readV s).ok = true
  · have HO' : Hid (okVal (readV s).k (readV s).n (readV s).s.data.toList = true) := ho
    have hq : ((⟨(strB (readV s).k (readV s).n (readV s).s).toArray⟩ : ByteArray).toList == s.toList) = false := by
      have := HP.out
      unfold parses at this
      rw [ho, Bool.true_and] at this
      exact this
    clear ho
    go_wp2_with fail
    refine (String_right _ _ _ _ (HG.out.thn (al W1.out _)) HO'.out HI.out).mono ?_
    rintro e w2 ⟨rfl, hb2⟩
    obtain ⟨⟨r0, r1, r2⟩, f0, f1, f2⟩ := ((R1.alloc _).below hb2 (by simp <;> omega)).three
    have W2 := Lib.hid (thn (al W1.out _) hb2)
    generalize (⟨(strB (readV s).k (readV s).n (readV s).s).toArray⟩ : ByteArray) = x at *
    have hne : (!(x.toList == s.toList)) = true := by rw [hq]; rfl
    clear hb2 R1
    go_wp2_with fail
    exact bodyPost_ret (v := .tuple #[.agg #[.int .i64 0, .int .i64 0, .string ⟨#[]⟩], .int .i64 10]) (by simp [results, Tryz.results27, go_sem, r0, r1, r2]) rfl ⟨rfl, st3 W2.out (Nat.le_refl _) _ _ _⟩
  · have ho' : (readV s).ok = false := by simpa using ho
    have hc : chk [⟨(readV s).k, (readV s).n, (readV s).s⟩] = 10 := chk_one_bad ho'
    have HC := Lib.hid hc
    clear ho ho' hc
    go_wp2_with fail
    refine (String_err _ _ _ _ (by have := readV_size s; have := HS.out; unfold maxLen; omega) (by rw [HC.out]; decide)).mono ?_
    rw [HC.out]
    rintro e w2 ⟨rfl, hb2⟩
    obtain ⟨⟨r0, r1, r2⟩, f0, f1, f2⟩ := ((R1.alloc _).below hb2 (by simp <;> omega)).three
    have W2 := Lib.hid (thn (al W1.out _) hb2)
    clear hb2 R1
    go_wp2_with fail
    exact bodyPost_ret (v := .tuple #[.agg #[.int .i64 0, .int .i64 0, .string ⟨#[]⟩], .int .i64 10]) (by simp [results, Tryz.results27, go_sem, r0, r1, r2]) rfl ⟨rfl, st3 W2.out (Nat.le_refl _) _ _ _⟩
end Go.Proofs.YtmhddoikicapjaaGreatDoor
