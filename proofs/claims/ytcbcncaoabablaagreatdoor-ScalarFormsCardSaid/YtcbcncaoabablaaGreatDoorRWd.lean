/-
  CONTRACT of the reference's Word.
-/
import Derived.Test.YtcbcncaoabablaaGreatDoorGA07
import Derived.Deep.WholeRow
import Derived.Great.Walk
namespace Go.Proofs.YtcbcncaoabablaaGreatDoor
open Go.RowKit Go.Deep

def wordsA : Array Value := #[.string ⟨#[97, 100, 100]⟩, .string ⟨#[115, 117, 98]⟩, .string ⟨#[109, 117, 108]⟩, .string ⟨#[100, 105, 118]⟩, .string ⟨#[109, 111, 100]⟩, .string ⟨#[110, 101, 103]⟩, .string ⟨#[99, 111, 110, 99, 97, 116]⟩, .string ⟨#[108, 101, 110, 103, 116, 104]⟩, .string ⟨#[101, 113]⟩, .string ⟨#[110, 101]⟩, .string ⟨#[108, 116]⟩, .string ⟨#[108, 101]⟩, .string ⟨#[103, 116]⟩, .string ⟨#[103, 101]⟩, .string ⟨#[115, 97, 109, 101]⟩, .string ⟨#[97, 110, 100]⟩, .string ⟨#[111, 114]⟩, .string ⟨#[110, 111, 116]⟩, .string ⟨#[105, 115, 110, 117, 108, 108]⟩, .string ⟨#[105, 115, 116, 114, 117, 101]⟩, .string ⟨#[99, 97, 115, 101]⟩, .string ⟨#[99, 111, 97, 108, 101, 115, 99, 101]⟩, .string ⟨#[]⟩]
theorem words_at : ∀ q : Nat, q < 22 → wordsA[q]? = some (.string (wordB ((q + 4 : Nat) : Int))) := by
  intro q hq
  have h : q = 0 ∨ q = 1 ∨ q = 2 ∨ q = 3 ∨ q = 4 ∨ q = 5 ∨ q = 6 ∨ q = 7 ∨ q = 8 ∨ q = 9 ∨ q = 10 ∨ q = 11 ∨ q = 12 ∨ q = 13 ∨ q = 14 ∨ q = 15 ∨ q = 16 ∨ q = 17 ∨ q = 18 ∨ q = 19 ∨ q = 20 ∨ q = 21 := by omega
  rcases h with rfl | rfl | rfl | rfl | rfl | rfl | rfl | rfl | rfl | rfl | rfl | rfl | rfl | rfl | rfl | rfl | rfl | rfl | rfl | rfl | rfl | rfl <;> rfl
set_option maxHeartbeats 8000000 in
set_option maxRecDepth 100000 in
theorem Word_any (m : Nat) (w : World) (h4 : 4 ≤ m) (h25 : m ≤ 25) :
    Calls Tryz.prog 48 #[.int .i64 (m : Nat)] w fun x w' => x = .returned (.string (wordB m)) ∧ Below w.heap.size w w' := by
  obtain ⟨q, rfl⟩ : ∃ q, m = q + 4 := ⟨m - 4, by omega⟩
  have hq := words_at q (by omega)
  have hB := Lib.hid (Blk.new w 126 wordsA)
  have hs : ((q + 4 : Nat) : Int) - 4 = (q : Int) := by omega
  have hw : IntKind.i64.wrap (((q + 4 : Nat) : Int) - 4) = (q : Int) := by rw [hs]; exact IntWalk.i64_in _ (by omega)
  have hq0 : (0 : Int) ≤ (q : Int) := by omega
  have hq23 : (q : Int) < 23 := by omega
  have hqn : q < 23 := by omega
  have hc : (w.alloc (.cells wordsA 126)).cell? ⟨w.heap.size, q, none⟩ = some (.string (wordB ((q + 4 : Nat) : Int))) := (hB.out.cell q).trans hq
  have H := Lib.hid (al (Below.refl w.heap.size w) (.cells wordsA 126))
  clear hq hB h4 h25 hs
  generalize wordB ((q + 4 : Nat) : Int) = wd at *
  generalize hz : ((q + 4 : Nat) : Int) = z at *
  go_enter Tryz.func48, Tryz.ntmps48
  go_upto_region 1 with fail
  refine wp_region_lit ?_
  refine wpList_buildTo rfl 126 _ rfl (some 4) rfl wordsA (by kernel_rfl) ?_
  refine Go.Great.wpList_allocTo rfl (some 3) rfl (.pointer (some ⟨w.heap.size, 0, none⟩)) (.cells #[.string ⟨#[]⟩, .string ⟨#[]⟩, .string ⟨#[]⟩, .string ⟨#[]⟩, .string ⟨#[]⟩, .string ⟨#[]⟩, .string ⟨#[]⟩, .string ⟨#[]⟩, .string ⟨#[]⟩, .string ⟨#[]⟩, .string ⟨#[]⟩, .string ⟨#[]⟩, .string ⟨#[]⟩, .string ⟨#[]⟩, .string ⟨#[]⟩, .string ⟨#[]⟩, .string ⟨#[]⟩, .string ⟨#[]⟩, .string ⟨#[]⟩, .string ⟨#[]⟩, .string ⟨#[]⟩, .string ⟨#[]⟩, .string ⟨#[]⟩] 126) ?al ?_
  case al =>
    have hz := (zero_of_info (P := Tryz.prog) (t := 126) (v := .agg #[.string ⟨#[]⟩, .string ⟨#[]⟩, .string ⟨#[]⟩, .string ⟨#[]⟩, .string ⟨#[]⟩, .string ⟨#[]⟩, .string ⟨#[]⟩, .string ⟨#[]⟩, .string ⟨#[]⟩, .string ⟨#[]⟩, .string ⟨#[]⟩, .string ⟨#[]⟩, .string ⟨#[]⟩, .string ⟨#[]⟩, .string ⟨#[]⟩, .string ⟨#[]⟩, .string ⟨#[]⟩, .string ⟨#[]⟩, .string ⟨#[]⟩, .string ⟨#[]⟩, .string ⟨#[]⟩, .string ⟨#[]⟩, .string ⟨#[]⟩]) (n := 23) (by kernel_rfl)).1
    simp [execOp, go_sem, hz]
  refine wpList_store_row rfl 126 (.tmp 3) (.tmp 4) rfl w.heap.size wordsA rfl rfl 126 #[.string ⟨#[]⟩, .string ⟨#[]⟩, .string ⟨#[]⟩, .string ⟨#[]⟩, .string ⟨#[]⟩, .string ⟨#[]⟩, .string ⟨#[]⟩, .string ⟨#[]⟩, .string ⟨#[]⟩, .string ⟨#[]⟩, .string ⟨#[]⟩, .string ⟨#[]⟩, .string ⟨#[]⟩, .string ⟨#[]⟩, .string ⟨#[]⟩, .string ⟨#[]⟩, .string ⟨#[]⟩, .string ⟨#[]⟩, .string ⟨#[]⟩, .string ⟨#[]⟩, .string ⟨#[]⟩, .string ⟨#[]⟩, .string ⟨#[]⟩] (heap_alloc_last w _) (by kernel_rfl) rfl (by kernel_rfl) ?_
  rw [World.setRow_alloc_new]
  generalize w.alloc (.cells wordsA 126) = w1 at *
  refine wpList_nil ?_
  go_frame
  go_wp2_with fail
  go_ret
  exact ⟨rfl, H.out⟩
end Go.Proofs.YtcbcncaoabablaaGreatDoor
