/-
  PkW: CONTRACTS of package token: words, IsWord.
  PkR: CONTRACTS of package token: kindOfRun, first.
  PkS: A SCOPE WITHOUT A GOTO, in a fenced walk (a function that holds a label).
  PkV: CONTRACTS of package token: IsWord, IsName.
-/
import Derived.Test.YtphgbfgccagcbaaGreatDoorGA08
import Derived.Test.YtphgbfgccagcbaaGreatDoorGA09
import Derived.Maps.OwnOps
import Derived.RangeFuncSeq
import Derived.Maps.Views
import Derived.StringKeys
import Derived.Sort.KeysCollected
import Derived.Scope
import Derived.ControlIn
import Derived.WalkMore
import Derived.Test.YtphgbfgccagcbaaGreatDoorGA06
namespace Go.Proofs.YtphgbfgccagcbaaGreatDoor
open Go.RowKit

/-- the words, a blank between any two -/
def wordText : ByteArray := ⟨#[97, 108, 108, 32, 97, 110, 100, 32, 97, 115, 32, 97, 115, 99, 32, 98, 101, 116, 119, 101, 101, 110, 32, 98, 121, 32, 99, 97, 115, 101, 32, 99, 114, 111, 115, 115, 32, 100, 101, 115, 99, 32, 100, 105, 115, 116, 105, 110, 99, 116, 32, 101, 108, 115, 101, 32, 101, 110, 100, 32, 101, 120, 99, 101, 112, 116, 32, 101, 120, 105, 115, 116, 115, 32, 102, 97, 108, 115, 101, 32, 102, 114, 111, 109, 32, 102, 117, 108, 108, 32, 103, 114, 111, 117, 112, 32, 104, 97, 118, 105, 110, 103, 32, 105, 110, 32, 105, 110, 110, 101, 114, 32, 105, 110, 116, 101, 114, 115, 101, 99, 116, 32, 105, 115, 32, 106, 111, 105, 110, 32, 108, 101, 102, 116, 32, 108, 105, 109, 105, 116, 32, 110, 111, 116, 32, 110, 117, 108, 108, 32, 111, 102, 102, 115, 101, 116, 32, 111, 110, 32, 111, 114, 32, 111, 114, 100, 101, 114, 32, 111, 117, 116, 101, 114, 32, 114, 105, 103, 104, 116, 32, 115, 101, 108, 101, 99, 116, 32, 116, 104, 101, 110, 32, 116, 114, 117, 101, 32, 117, 110, 105, 111, 110, 32, 118, 97, 108, 117, 101, 115, 32, 119, 104, 101, 110, 32, 119, 104, 101, 114, 101]⟩
theorem fields_words : Lib.fields wordText.data.toList = wordsB.map (fun x => x.data.toList) := by decide +kernel
theorem fields_len : (Lib.fields wordText.data.toList).length = 41 := by rw [fields_words, List.length_map]; rfl
theorem fields_vals : ((Lib.fields wordText.data.toList).map fun l => Value.string ⟨l.toArray⟩).toArray = (wordsB.map Value.string).toArray := by
  rw [fields_words, List.map_map]
  rfl
/-- block b is a map that holds true at these strings, and has no other one -/
def WMap (w : World) (b n : Nat) (l : List ByteArray) : Prop :=
  ∃ D : DataW Unit, w.ownsMap Tryz.prog 9 (plainElem Tryz.prog 4) b n D ∧ (∀ key, D.atKey (.string key) (.lit (.bool false)) = .lit (.bool (l.any fun x => x.data.toList == key))) ∧ ∀ key, Maps.has D (.string key) = l.any fun x => x.data.toList == key
theorem WMap.same {w w' : World} {b n : Nat} {l : List ByteArray} (h : WMap w b n l) (hb : w'.heap[b]? = w.heap[b]?) : WMap w' b n l := by
  obtain ⟨D, ⟨es, cl, h1, h2⟩, h3⟩ := h
  exact ⟨D, ⟨es, cl, hb.trans h1, h2⟩, h3⟩
theorem WMap.lt {w : World} {b n : Nat} {l : List ByteArray} (h : WMap w b n l) : b < w.heap.size := by
  obtain ⟨D, h1, _⟩ := h
  exact h1.lt
theorem WMap.below {w w' : World} {b n : Nat} {l : List ByteArray} (h : WMap w b n l) (hb : Below w.heap.size w w') : WMap w' b n l := h.same (hb.block b h.lt)
theorem WMap.isMap {w : World} {b n : Nat} {l : List ByteArray} (h : WMap w b n l) : ∃ o, w.heap[b]? = some o ∧ o.isWalk = true := by
  obtain ⟨D, ⟨es, cl, h1, _⟩, _⟩ := h
  exact ⟨_, h1, rfl⟩
theorem keyB (s : ByteArray) (h : s.size ≤ maxLen) : keyOf Tryz.prog 9 (.string s) = some (.string s.data.toList) := WideMaps.keyOf_string_mk Tryz.underlying9 h
theorem plainB_inv {P : Program} {e : TypeId} (he : P.underlying e = some .bool) {v : Value} {z : DataW Unit × List MemPlace} (h : plainElem P e v = some z) : ∃ b, v = .bool b ∧ z = (.lit (.bool b), []) := by
  unfold plainElem at h
  rw [he] at h
  cases v <;> simp at h
  exact ⟨_, rfl, h.symm⟩
set_option maxRecDepth 100000 in
theorem WMap.look {w : World} {b n : Nat} {l : List ByteArray} (h : WMap w b n l) (s : ByteArray) (hs : s.size ≤ maxLen) :
    (Instr.lookup 51 (.map (some b)) (.string s) false).run Tryz.prog w = .ok (.bool (l.any fun x => x.data.toList == s.data.toList)) w := by
  obtain ⟨D, h1, h2, _⟩ := h
  obtain ⟨v, ps, hrun, hv⟩ := h1.lookup (Maps.string_keyed Tryz.underlying9) Tryz.underlying51 (Tryz.zeroValue4 _) (plainElem_bool Tryz.underlying4 false) (keyB s hs)
  rw [h2] at hv
  refine hrun.trans ?_
  obtain ⟨b', rfl, hb'⟩ := plainB_inv Tryz.underlying4 hv
  injection hb' with hb' _
  injection hb' with hb'
  injection hb' with hb'
  rw [hb']
theorem words_size : ∀ x ∈ wordsB, x.size ≤ 20 := by decide +kernel
theorem any_sn (l : List ByteArray) (k : Nat) (h : k < l.length) (key : List UInt8) : ((l.take (k + 1)).any fun x => x.data.toList == key) = (((l.take k).any fun x => x.data.toList == key) || (l[k].data.toList == key)) := by
  rw [List.take_succ_eq_append_getElem h, List.any_append]
  simp
theorem text_ascii : ∀ c ∈ wordText.data.toList, c.toNat < 128 := by decide +kernel
theorem fieldsW (w : World) (hG : GT w) : Calls Tryz.prog 42 #[.string wordText] w fun e w' => e = .returned (.slice (some ⟨w.heap.size, 0, none⟩) 41 41) ∧ w' = w.alloc (.cells (wordsB.map Value.string).toArray 9) := by
  have h := fieldsL wordText w hG (by decide +kernel) text_ascii
  rw [fields_len, fields_vals] at h
  exact h
set_option maxHeartbeats 1000000 in
set_option maxRecDepth 100000 in
theorem words_any (w : World) (hG : GT w) :
    Calls Tryz.prog 23 #[] w fun e w' => ∃ b, e = .returned (.map (some b)) ∧ w.heap.size ≤ b ∧ WMap w' b 41 wordsB ∧ Below w.heap.size w w' := by
  have HG := Lib.hid hG
  clear hG
  have hmm := @run_makeMap Tryz.prog
  go_enter Tryz.func23, Tryz.ntmps23
  go_wp2_with fail
  refine (fieldsW _ (HG.out.thn (al (Below.refl _ _) _))).mono ?_
  rintro e w1 ⟨rfl, rfl⟩
  have HB0 := Lib.hid (Blk.new' (w := w.alloc (.map #[] 0)) (g := w.heap.size + 1) (t := 9) (cs := (wordsB.map Value.string).toArray) (by simp))
  go_wp2_with fail
  go_loopw [7] (fun i wr => ∃ k : Nat, k ≤ 41 ∧ i = .int .i64 k ∧ Hid (WMap wr w.heap.size k (wordsB.take k) ∧ Below w.heap.size w wr ∧ Blk wr (w.heap.size + 1) 9 (wordsB.map Value.string).toArray)) (fun i _ => 41 - (intOf i).toNat)
  case atStart =>
    refine ⟨0, Nat.zero_le _, rfl, Lib.hid ⟨⟨.map [], (World.ownsMap_made _ _ _ _).kept (row := none) (World.grownBy_alloc _ _ none) (by simp), (fun key => by simp [DataW.atKey]), (fun key => by simp [Maps.has])⟩, al (al (Below.refl _ _) _) _, HB0.out⟩⟩
  case round =>
    obtain ⟨k, hk, rfl, HI⟩ := hrel
    by_cases hlt : k < 41
    · have hlti : (k : Int) < 41 := by omega
      have hwl : wordsB.length = 41 := rfl
      have hc := HI.out.2.2.cell k
      have hkw : k < wordsB.length := by omega
      rw [List.getElem?_toArray, List.getElem?_map, List.getElem?_eq_getElem hkw] at hc
      have hkey := keyB wordsB[k] (by have := words_size _ (List.getElem_mem hkw); unfold maxLen; omega)
      have HS := Lib.hid (any_sn wordsB k hkw)
      simp only [Option.map_some] at hc
      generalize wordsB[k] = x at *
      have HK := Lib.hid hkey
      obtain ⟨D, hown, hat0, hhas⟩ := HI.out.1
      have HH := Lib.hid (And.intro hat0 hhas)
      clear hkey hwl hkw hat0 hhas
      go_wp2_with (at_mapUpdate; refine wpList_mapUpdate_own _ rfl _ _ _ 51 rfl 9 4 (Maps.string_keyed Tryz.underlying9) Tryz.underlying51 _ w.heap.size k D rfl hown (by unfold maxLen; omega) _ _ _ rfl rfl HK.out _ [] (plainElem_bool Tryz.underlying4 true) ?_; intro w2 hown1 hgrow1)
      have HN : Hid (WMap w2 w.heap.size (k + 1) (wordsB.take (k + 1)) ∧ Below w.heap.size w w2 ∧ Blk w2 (w.heap.size + 1) 9 (wordsB.map Value.string).toArray) := by
        refine Lib.hid ⟨⟨_, hown1, fun key => ?_, fun key => ?_⟩, HI.out.2.1.grown hgrow1 HI.out.2.1.size (fun j e => by injection e with e; omega), HI.out.2.2.grown hgrow1 (fun e => by injection e with e; omega)⟩
        · rw [HS.out]
          by_cases e : x.data.toList = key
          · subst e
            rw [Maps.atKey_put_same (k := .string x.data.toList) (by obtain ⟨es, clock, _, _, _, e⟩ := hown; exact ⟨_, e⟩) (by simp [WideAt.IsKeyLit])]
            simp
          · rw [Maps.atKey_put_other (fun h => e (by injection h with h; exact h.symm)), HH.out.1]
            simp [e]
        · rw [HS.out]
          by_cases e : x.data.toList = key
          · subst e
            rw [Maps.has_put_same (k := .string x.data.toList) (by obtain ⟨es, clock, _, _, _, e⟩ := hown; exact ⟨_, e⟩) (by simp [WideAt.IsKeyLit])]
            simp
          · rw [Maps.has_put_other (fun h => e (by injection h with h; exact h.symm)), HH.out.2]
            simp [e]
      clear hown hown1 hgrow1 HH HI HK HS hc
      go_wp2_with fail
      go_roundw
      case rel => exact ⟨k + 1, by omega, by go_num, HN⟩
      case measure => simp [intOf]; omega
    · have hkn : k = 41 := by omega
      subst hkn
      go_wp2_with fail
      go_ret
      refine ⟨w.heap.size, rfl, Nat.le_refl _, ?_, HI.out.2.1⟩
      have := HI.out.1
      rwa [show wordsB.take 41 = wordsB from rfl] at this
end Go.Proofs.YtphgbfgccagcbaaGreatDoor
namespace Go.Proofs.YtphgbfgccagcbaaGreatDoor
open Go.RowKit

theorem kindR_of (s : ByteArray) : kindR s = if isWd s.data.toList then 1 else if formed s.data.toList then 2 else if parses s && decide ((readV s).k = 1) then 3 else 0 := rfl
set_option maxRecDepth 100000 in
set_option maxHeartbeats 1000000 in
theorem kindOfRun_any (s : ByteArray) (b n : Nat) (w : World) (hG : GT w) (hs : s.size ≤ 20000) (hm : WMap w b n wordsB) :
    Calls Tryz.prog 53 #[.string s, .map (some b)] w fun e w' => e = .returned (.int .i64 (kindR s : Nat)) ∧ Below w.heap.size w w' := by
  have HG := Lib.hid hG
  have hlk := hm.look s (by unfold maxLen; omega)
  have hwd : (wordsB.any fun x => x.data.toList == s.data.toList) = isWd s.data.toList := rfl
  rw [hwd] at hlk
  have HK := Lib.hid (kindR_of s)
  generalize kindR s = kk at *
  clear hG hm hwd
  cases hw : isWd s.data.toList with
  | true =>
    rw [hw] at hlk HK
    have HE : Hid (kk = 1) := Lib.hid (by rw [HK.out]; rfl)
    clear hw HK
    go_enter Tryz.func53, Tryz.ntmps53
    go_wp2_with fail
    go_ret
    exact ⟨by rw [HE.out]; rfl, Below.refl _ _⟩
  | false =>
    rw [hw] at hlk HK
    clear hw
    have HN := Lib.hid (isNameOrWord_any s w hs)
    cases hf : formed s.data.toList with
    | true =>
      rw [hf] at HN HK
      have HE : Hid (kk = 2) := Lib.hid (by rw [HK.out]; rfl)
      clear hf HK
      go_enter Tryz.func53, Tryz.ntmps53
      go_wp2_with fail
      refine HN.out.mono ?_
      rintro e w1 ⟨rfl, hb1⟩
      have W1 := Lib.hid hb1
      clear hb1
      go_wp2_with fail
      go_ret
      exact ⟨by rw [HE.out]; rfl, W1.out⟩
    | false =>
      rw [hf] at HN HK
      clear hf
      cases hp : parses s with
      | true =>
        have HP := Lib.hid hp
        rw [hp] at HK
        clear hp
        go_enter Tryz.func53, Tryz.ntmps53
        go_wp2_with fail
        refine HN.out.mono ?_
        rintro e w1 ⟨rfl, hb1⟩
        have W1 := Lib.hid hb1
        clear hb1
        go_wp2_with fail
        refine (Parse_yes s _ (HG.out.thn W1.out).e hs HP.out).mono ?_
        generalize readV s = z at *
        rintro e w2 ⟨rfl, hb2⟩
        have W2 := Lib.hid (thn W1.out hb2)
        clear hb2
        by_cases hk : z.k = 1
        · have hke : (z.k == 1) = true := beq_iff_eq.2 hk
          have HE : Hid (kk = 3) := Lib.hid (by rw [HK.out, decide_eq_true hk]; rfl)
          clear hk HK
          go_wp2_with fail
          go_ret
          exact ⟨by rw [HE.out]; rfl, al W2.out _⟩
        · have hke : (z.k == 1) = false := beq_eq_false_iff_ne.2 hk
          have HE : Hid (kk = 0) := Lib.hid (by rw [HK.out, decide_eq_false hk]; rfl)
          clear hk HK
          go_wp2_with fail
          go_ret
          exact ⟨by rw [HE.out]; rfl, al W2.out _⟩
      | false =>
        have HP := Lib.hid hp
        rw [hp] at HK
        have HE : Hid (kk = 0) := Lib.hid (by rw [HK.out]; rfl)
        clear hp HK
        go_enter Tryz.func53, Tryz.ntmps53
        go_wp2_with fail
        refine HN.out.mono ?_
        rintro e w1 ⟨rfl, hb1⟩
        have W1 := Lib.hid hb1
        clear hb1
        go_wp2_with fail
        refine (Parse_no s _ (HG.out.thn W1.out).e hs HP.out).mono ?_
        rintro e w2 ⟨rfl, hb2⟩
        have W2 := Lib.hid (thn W1.out hb2)
        clear hb2
        go_wp2_with fail
        go_ret
        exact ⟨by rw [HE.out]; rfl, al W2.out _⟩
/-- what first says of a string that begins with no sign: the token's kind and text, or the kind 0 -/
def FstT (s : ByteArray) (k : Nat) (t : ByteArray) : Prop := (k = 0 ∧ oneB s.data.toList = none) ∨ (k ≠ 0 ∧ oneB s.data.toList = some (k, t.data.toList))
set_option maxHeartbeats 1000000 in
theorem first_any (s : ByteArray) (b n : Nat) (w : World) (hG : GT w) (hs : s.size ≤ 20000) (h0 : 0 < s.size) (hm : WMap w b n wordsB) (hsg : Tok.signOf s.data.toList Tok.signs = none) :
    Calls Tryz.prog 31 #[.string s, .map (some b)] w fun e w' => ∃ (k : Nat) (t : ByteArray), e = .returned (.tuple #[.int .i64 k, .string t]) ∧ FstT s k t ∧ Below w.heap.size w w' := by
  have HG := Lib.hid (And.intro hG hm)
  have h0i : (0 : Int) < (s.size : Int) := by omega
  have hlen : s.data.toList.length = s.size := Array.length_toList
  have hne : s.data.toList ≠ [] := fun e => by rw [e] at hlen; simp at hlen; omega
  have HS := Lib.hid hsg
  clear hG hm hsg
  by_cases h39 : s.data.toList.head? = some 39
  · have hq : ((s[0].toNat : Int) == 39) = true := by
      have h := head_at s h0
      rw [h39] at h
      injection h with h
      rw [← h]; rfl
    have HQ := Lib.hid (quotedP_any s w hs h0)
    have hle := quoP_le _ hne
    rw [hlen] at hle
    have HT := Lib.hid (first_text h39)
    generalize hqq : quoP s.data.toList = q at *
    have hqi : (q : Int) ≤ (s.size : Int) := by omega
    have hq0 : (0 : Int) ≤ (q : Int) := by omega
    have hps : (s.extract 0 q).size ≤ 20000 := by rw [ByteArray.size_extract]; omega
    have HX : Hid (FstT s (kindT (s.extract 0 q)) (s.extract 0 q)) := Lib.hid (by
      unfold FstT kindT
      rw [HT.out, extT]
      cases parses (s.extract 0 q)
      · exact .inl ⟨rfl, rfl⟩
      · exact .inr ⟨by decide, rfl⟩)
    clear h39 hne hlen hqq
    go_enter Tryz.func31, Tryz.ntmps31
    go_wp2_with fail
    refine HQ.out.mono ?_
    rintro e w' ⟨rfl, rfl⟩
    go_wp2_with fail
    refine (kindOfText_any (s.extract 0 q) _ HG.out.1 hps).mono ?_
    rintro e w1 ⟨rfl, hb1⟩
    have W1 := Lib.hid hb1
    clear hb1
    go_wp2_with fail
    go_ret2
    exact ⟨_, _, rfl, HX.out, W1.out⟩
  · have hq : ((s[0].toNat : Int) == 39) = false := by
      simp
      intro e
      exact h39 (by rw [head_at s h0, eq39 (c := s[0]) (by omega)])
    have hdl : (Lib.trimLeftS s.data.toList csR).length ≤ s.size := by rw [← hlen]; exact drop_le _
    have HR : Hid (∀ t : ByteArray, t.data.toList = Tok.run s.data.toList → FstT s (kindR t) t) := Lib.hid (fun t ht => by
      have h := first_run ht hne h39 HS.out
      unfold FstT
      rw [h]
      by_cases hk : kindR t = 0
      · exact .inl ⟨hk, by rw [if_pos hk]⟩
      · exact .inr ⟨hk, by rw [if_neg hk]⟩)
    have HL := Lib.hid (trimLeftL s w)
    have HX : Hid ((s.extract 0 (s.size - (Lib.trimLeftS s.data.toList csR).length)).data.toList = runP s.data.toList) := Lib.hid (by
      rw [extT]; unfold runP; rw [hlen])
    obtain ⟨d, hd⟩ : ∃ d : ByteArray, d = ⟨(Lib.trimLeftS s.data.toList csR).toArray⟩ := ⟨_, rfl⟩
    have hds : d.size = (Lib.trimLeftS s.data.toList csR).length := by rw [hd]; exact List.size_toArray ..
    rw [← hds] at HX hdl
    rw [← hd] at HL
    clear h39 hne hlen hd hds
    have hdi : (d.size : Int) ≤ (s.size : Int) := by omega
    have hsub : (s.size : Int) - (d.size : Int) = ((s.size - d.size : Nat) : Int) := by omega
    have hsb0 : (0 : Int) ≤ (s.size : Int) - (d.size : Int) := by omega
    have hsb1 : (s.size : Int) - (d.size : Int) ≤ (s.size : Int) := by omega
    go_enter Tryz.func31, Tryz.ntmps31
    go_wp2_with fail
    refine HL.out.mono ?_
    rintro e w1 ⟨rfl, hb1⟩
    have W1 := Lib.hid hb1
    clear hb1
    go_wp2_with fail
    have hrs : (s.extract 0 (s.size - d.size)).size ≤ 20000 := by rw [ByteArray.size_extract]; omega
    have HLow := Lib.hid (toLowerL (s.extract 0 (s.size - d.size)) w1 hrs (by rw [HX.out]; exact runP_ascii _))
    have HT : Hid ((⟨(Lib.toLowerA (s.extract 0 (s.size - d.size)).data.toList).toArray⟩ : ByteArray).data.toList = Tok.run s.data.toList) := Lib.hid (by rw [HX.out]; exact run_eq _)
    obtain ⟨t, ht⟩ : ∃ t : ByteArray, t = ⟨(Lib.toLowerA (s.extract 0 (s.size - d.size)).data.toList).toArray⟩ := ⟨_, rfl⟩
    have hts : t.size ≤ 20000 := by
      have h1 : t.data.toList.length = (runP s.data.toList).length := by rw [ht, HT.out, runP_len]
      rw [Array.length_toList, ← HX.out, Array.length_toList] at h1
      have h2 : t.data.size = t.size := rfl
      have h3 : (s.extract 0 (s.size - d.size)).data.size = (s.extract 0 (s.size - d.size)).size := rfl
      omega
    rw [← ht] at HT HLow
    have HF := Lib.hid (HR.out t HT.out)
    clear ht hrs HT HR HX
    refine HLow.out.mono ?_
    rintro e w2 ⟨rfl, hb2⟩
    have W2 := Lib.hid (thn W1.out hb2)
    clear hb2 HLow
    go_wp2_with fail
    refine (kindOfRun_any t b n _ (HG.out.1.thn W2.out) hts (HG.out.2.below W2.out)).mono ?_
    rintro e w3 ⟨rfl, hb3⟩
    have W3 := Lib.hid (thn W2.out hb3)
    clear hb3
    go_wp2_with fail
    go_ret2
    exact ⟨_, _, rfl, HF.out, W3.out⟩
end Go.Proofs.YtphgbfgccagcbaaGreatDoor
namespace Go.Proofs.YtphgbfgccagcbaaGreatDoor
open Go.RowKit

section
variable {P : Program} {b : Frame} {a : Act} {k : List Item} {cs : List Frame} {w : World} {Q : Exit → Act → World → Prop} {F : Fence} {n : Nat}
theorem stepR_scope {c : Code} : step P (lone (b.atR a (.code (.scope c) :: k)) cs w) = .next (lone (b.atR a (.code c :: .inScope c :: k)) cs w) :=
  step_lone_go (by simp [stepG, stepG.exec, Frame.atR])
theorem stepR_inScope {c : Code} : step P (lone (b.atR a (.inScope c :: k)) cs w) = .next (lone (b.atR a k) cs w) :=
  step_lone_go (by simp [stepG, stepG.exec, Frame.atR])
theorem wpIn_scope {c : Code} (h : c.wpIn F n P (Exit.noGoto Q) a w) : (Code.scope c).wpIn F n P Q a w := by
  intro b k cs hro hb hr
  have h0 : (lone (b.atR a (.code (.scope c) :: k)) cs w).fenced P F := fenced_calm hb hr rfl
  obtain ⟨e, a₁, w₁, hq, harr⟩ := h b (.inScope c :: k) cs hro hb hr
  cases e with
  | normal => exact ⟨.normal, a₁, w₁, hq, .head h0 stepR_scope (StepsIn.trans harr (.one (fenced_calm hb hr rfl) stepR_inScope))⟩
  | exit id =>
    have hx : exitTo id (.inScope c :: k) = exitTo id k := by simp [exitTo]
    exact ⟨.exit id, a₁, w₁, hq, fun k' hk => .head h0 stepR_scope (harr.1 k' (by rw [hx]; exact hk)),
      fun hr' hk => let ⟨k₁, h1, h2⟩ := harr.2 hr' (by rw [hx]; exact hk); ⟨k₁, h1, .head h0 stepR_scope h2⟩⟩
  | goto l => exact hq.elim
  | ret => exact ⟨_, a₁, w₁, hq, .of_steps (.one h0 stepR_scope) harr⟩
  | panic ch => exact ⟨_, a₁, w₁, hq, .of_steps (.one h0 stepR_scope) harr⟩
  | outgrown => exact ⟨_, a₁, w₁, hq, .of_steps (.one h0 stepR_scope) harr⟩
end
end Go.Proofs.YtphgbfgccagcbaaGreatDoor
namespace Go.Proofs.YtphgbfgccagcbaaGreatDoor
open Go.RowKit

set_option maxHeartbeats 1000000 in
theorem PIsWord_any (s : ByteArray) (w : World) (hG : GT w) (hs : s.size ≤ 20000) :
    Calls Tryz.prog 13 #[.string s] w fun e w' => e = .returned (.bool (isWd s.data.toList)) ∧ Below w.heap.size w w' := by
  have HG := Lib.hid hG
  clear hG
  go_enter Tryz.func13, Tryz.ntmps13
  go_wp2_with fail
  refine (words_any w HG.out).mono ?_
  rintro e w1 ⟨b, rfl, hb, hm, hb1⟩
  have hlk := hm.look s (by unfold maxLen; omega)
  have hwd : (wordsB.any fun x => x.data.toList == s.data.toList) = isWd s.data.toList := rfl
  rw [hwd] at hlk
  have W1 := Lib.hid hb1
  clear hm hb hb1 hwd
  go_wp2_with fail
  go_ret
  exact ⟨rfl, W1.out⟩
set_option maxHeartbeats 1000000 in
theorem PIsName_any (s : ByteArray) (w : World) (hG : GT w) (hs : s.size ≤ 20000) :
    Calls Tryz.prog 14 #[.string s] w fun e w' => e = .returned (.bool (isNm s.data.toList)) ∧ Below w.heap.size w w' := by
  have HG := Lib.hid hG
  have HN := Lib.hid (isNameOrWord_any s w hs)
  clear hG
  unfold isNm
  cases hf : formed s.data.toList with
  | false =>
    rw [hf] at HN
    clear hf
    go_enter Tryz.func14, Tryz.ntmps14
    go_wp2_with fail
    refine HN.out.mono ?_
    rintro e w1 ⟨rfl, hb1⟩
    have W1 := Lib.hid hb1
    clear hb1
    go_wp2_with fail
    go_ret
    exact ⟨rfl, W1.out⟩
  | true =>
    rw [hf] at HN
    clear hf
    go_enter Tryz.func14, Tryz.ntmps14
    go_wp2_with fail
    refine HN.out.mono ?_
    rintro e w1 ⟨rfl, hb1⟩
    have W1 := Lib.hid hb1
    clear hb1
    go_wp2_with fail
    refine (PIsWord_any s _ (HG.out.thn W1.out) hs).mono ?_
    rintro e w2 ⟨rfl, hb2⟩
    have W2 := Lib.hid (thn W1.out hb2)
    clear hb2
    go_wp2_with fail
    go_ret
    exact ⟨rfl, W2.out⟩
end Go.Proofs.YtphgbfgccagcbaaGreatDoor
