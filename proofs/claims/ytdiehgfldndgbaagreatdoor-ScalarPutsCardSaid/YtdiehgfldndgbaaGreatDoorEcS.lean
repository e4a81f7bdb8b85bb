/-
  CONTRACT of scalar.each from expressions to strings.
-/
import Derived.Test.YtdiehgfldndgbaaGreatDoorGA11
import Derived.Deep.OwnRows
namespace Go.Proofs.YtdiehgfldndgbaaGreatDoor
open Go.RowKit Go.Deep

theorem infoStr : (Tryz.prog.info? 9).map (fun i => (i.zero, i.size, i.bytes)) = some (some (.string ⟨#[]⟩), 1, 16) := by kernel_rfl
theorem makeS (n : Nat) (hn : n ≤ 1000000) (w : World) : (Instr.makeSlice 157 (.int .i64 (n : Int)) (.int .i64 (n : Int))).run Tryz.prog w = .ok (.slice (some ⟨w.heap.size, 0, none⟩) n n) (w.alloc (.cells (madeCells #[.string ⟨#[]⟩] n) 9)) :=
  run_make_row' (P := Tryz.prog) 157 9 (.string ⟨#[]⟩) 16 Tryz.underlying157 infoStr rfl .i64 .i64 n (by omega) (by omega) w
set_option maxHeartbeats 2000000 in
set_option maxRecDepth 100000 in
theorem eachS_any (gf : FuncId) (f : E → ByteArray) (l : List E) (A : Option Addr) (c : Nat) (w : World) (hl : l.length ≤ 1000000) (hA : LOk w (Lo w.heap.size) A l)
    (heg : ∀ args W, (callFunc gf args).run Tryz.prog W = .ok (.enter gf args) W)
    (hcall : ∀ e ∈ l, ∀ (A' R' : Option Addr) (c' d' : Nat) (w1 : World), Below w.heap.size w w1 → LOk w1 (Lo w1.heap.size) A' e.args → Calls Tryz.prog gf #[e.val A' c' R' d'] w1 fun x w' => x = .returned (.string (f e)) ∧ Below w1.heap.size w1 w') :
    Calls Tryz.prog 111 #[.slice A l.length c, .func (.func gf) #[] #[]] w fun x w' => ∃ (g : Nat) (C : Array Value), x = .returned (.slice (some ⟨g, 0, none⟩) l.length l.length) ∧ Blk w' g 9 C ∧ (∀ (i : Nat) (e : E), l[i]? = some e → C[i]? = some (Value.string (f e))) ∧ Below w.heap.size w w' := by
  have HA := Lib.hid (And.intro hA hcall)
  have hmk := makeS l.length hl
  clear hA hcall
  go_enter Tryz.func111, Tryz.ntmps111
  go_wp2_with fail
  go_loopw [13] (fun iv wr => ∃ (j : Nat) (C : Array Value), j ≤ l.length ∧ iv = .int .i64 j ∧ Hid (Below w.heap.size w wr ∧ Blk wr w.heap.size 9 C) ∧ Hid (C.size = l.length ∧ ∀ (i : Nat) (e : E), i < j → l[i]? = some e → C[i]? = some (Value.string (f e)))) (fun iv _ => l.length - (intOf iv).toNat)
  case atStart => exact ⟨0, _, Nat.zero_le _, rfl, ⟨al (Below.refl _ _) _, Blk.new _ _ _⟩, ⟨by simp [madeCells], fun i e h => absurd h (Nat.not_lt_zero _)⟩⟩
  case round =>
    obtain ⟨j, C, hj, rfl, HW, HC⟩ := hrel
    by_cases hlt : j < l.length
    · have hlti : (j : Int) < (l.length : Int) := by omega
      obtain ⟨b, o, rfl, hb, he⟩ := (HA.out.1.below HW.out.1 HW.out.1.size).at_ hlt
      obtain ⟨z0, z1, z2, z3, z4, z5, z6, ⟨A1, c1, z7, z8⟩, R1, d1, z9, z10⟩ := EOk.mk_.1 he
      have x0 : wr.cell? ⟨b, o + j * 9, none⟩ = some (.int .i64 l[j].op) := z0
      have x1 : wr.cell? ⟨b, o + j * 9 + 1, none⟩ = some (.int .i64 l[j].n) := z1
      have x2 : wr.cell? ⟨b, o + j * 9 + 2, none⟩ = some (.int .i64 l[j].m) := z2
      have x3 : wr.cell? ⟨b, o + j * 9 + 3, none⟩ = some (.int .i64 l[j].kind) := z3
      have x4 : wr.cell? ⟨b, o + j * 9 + 4, none⟩ = some (.int .i64 l[j].lit.k) := z4
      have x5 : wr.cell? ⟨b, o + j * 9 + 5, none⟩ = some (.int .i64 l[j].lit.n) := z5
      have x6 : wr.cell? ⟨b, o + j * 9 + 6, none⟩ = some (.string l[j].lit.s) := z6
      have x7 : wr.cell? ⟨b, o + j * 9 + 7, none⟩ = some ((.slice A1 l[j].args.length c1)) := z7
      have x8 : wr.cell? ⟨b, o + j * 9 + 8, none⟩ = some ((.slice R1 l[j].rels.length d1)) := z9
      have HK : Hid (∀ ob, Calls Tryz.prog gf #[l[j].val A1 c1 R1 d1] (wr.alloc ob) fun x w' => x = .returned (.string (f l[j])) ∧ Below (wr.alloc ob).heap.size (wr.alloc ob) w') := Lib.hid fun ob =>
        HA.out.2 _ (List.getElem_mem hlt) A1 R1 c1 d1 _ (al HW.out.1 _) (z8.below (al (Below.refl _ _) _) (by simp))
      have hge : l[j]? = some l[j] := List.getElem?_eq_getElem hlt
      have HG := Lib.hid hge
      clear z0 z1 z2 z3 z4 z5 z6 z7 z8 z9 z10 he hge
      generalize l[j] = ei at *
      unfold E.val at HK
      go_wp2_with fail
      refine (HK.out _).mono ?_
      rintro x w3 ⟨rfl, hb3⟩
      have hB3 := (HW.out.2.alloc (.cells #[.int .i64 ei.op, .int .i64 ei.n, .int .i64 ei.m, .int .i64 ei.kind, .int .i64 ei.lit.k, .int .i64 ei.lit.n, .string ei.lit.s, .slice A1 ei.args.length c1, .slice R1 ei.rels.length d1] 30)).below hb3 (by have := HW.out.2.lt; simp; omega)
      have k0 := hB3.cell j
      have kf := hB3.frozen j
      have hCj : j < C.size := by rw [HC.out.1]; exact hlt
      rw [Array.getElem?_eq_getElem hCj] at k0
      have HN : Hid ((Below w.heap.size w (w3.setCell ⟨w.heap.size, j, none⟩ (.string (f ei))) ∧ Blk (w3.setCell ⟨w.heap.size, j, none⟩ (.string (f ei))) w.heap.size 9 (C.setIfInBounds j (.string (f ei)))) ∧ (C.setIfInBounds j (.string (f ei))).size = l.length ∧ ∀ (i : Nat) (e : E), i < j + 1 → l[i]? = some e → (C.setIfInBounds j (.string (f ei)))[i]? = some (.string (f e))) := by
        refine ⟨⟨(thn (al HW.out.1 _) hb3).setCell (p := ⟨w.heap.size, j, none⟩) (Nat.le_refl _) _, hB3.set_ j _⟩, by simpa using HC.out.1, fun i e hi hie => ?_⟩
        by_cases hij : i = j
        · subst hij
          rw [HG.out] at hie
          injection hie with hie
          subst hie
          simp [hCj]
        · rw [Array.getElem?_setIfInBounds_ne (fun h => hij h.symm)]
          exact HC.out.2 i e (by omega) hie
      clear hb3 hB3
      go_wp2_with fail
      exact ⟨⟨j + 1, _, by omega, by go_num, HN.out.1, HN.out.2⟩, by simp [intOf]; omega⟩
    · have hlf : decide ((j : Int) < (l.length : Int)) = false := decide_eq_false (by omega)
      go_wp2_with fail
      go_ret
      refine ⟨w.heap.size, C, rfl, HW.out.2, fun i e hi => HC.out.2 i e ?_ hi, HW.out.1⟩
      have := (List.getElem?_eq_some_iff.1 hi).1
      omega
end Go.Proofs.YtdiehgfldndgbaaGreatDoor
