/-
  A REGION THAT DRAWS ITS ORDER AND CALLS WHAT MAKES MEMORY (Reg), in a round of a range over a function.
-/
import Derived.Test.YtapnnheggjahlaaGreatDoorGrow
import Derived.Test.YtapnnheggjahlaaGreatDoorReg
namespace Go.Proofs.YtapnnheggjahlaaGreatDoor
open Go.RowKit

theorem any_region_aft {P : Program} {Q : Exit → Act → World → Prop} {a : Act} {W : World} {l : List Oper} (hB : Region.lexB .any l.toArray = true)
    (h : wpQuiet P l.toArray (fun w' => ∃ x : Aft W, w' = x.w) (fun a' => ∀ x : Aft W, Q .normal a' x.w) l a) : wpAny P .any l.toArray Q l.toArray.size (Array.replicate l.toArray.size false) a W.drew := by
  simp only [Region.lexB, Bool.and_eq_true] at hB
  have e : (fun a' => ∀ w', (∃ x : Aft W, w' = x.w) → Q .normal a' w') = (fun a' => ∀ x : Aft W, Q .normal a' x.w) := by
    funext a'
    exact propext ⟨fun h x => h _ ⟨x, rfl⟩, fun h w' ⟨x, hx⟩ => hx ▸ h x⟩
  refine wpAny_of_quiet (C := fun w' => ∃ x : Aft W, w' = x.w) (Q := fun a' => ∀ w', (∃ x : Aft W, w' = x.w) → Q .normal a' w') (fun _ w' hw' h => h w' hw') _ _ _ _ ⟨⟨_, (Below.refl _ W).drew⟩, rfl⟩ ?_
  have := wpAnyQ_lex (P := P) (C := fun w' => ∃ x : Aft W, w' = x.w) (Q := fun a' => ∀ w', (∃ x : Aft W, w' = x.w) → Q .normal a' w') (md := .any) hB.1 l 0 (Array.replicate l.toArray.size false) a (by simp) (by simpa using hB.2) (by rw [e]; exact h)
  simpa using this
theorem wpIn_region_aft {r m id : Nat} {P : Program} {Q : Exit → Act → World → Prop} {a : Act} {W : World} {l : List Oper} (hm : P.follows .mixedOrders = true) (hB : Region.lexB .any l.toArray = true) (hN : Region.noDefer l.toArray = true) (hQ : ¬ LetsOut Q)
    (h : wpQuiet P l.toArray (fun w' => ∃ x : Aft W, w' = x.w) (fun a' => ∀ x : Aft W, Q .normal a' x.w) l a) : (Code.region id l.toArray true).wpIn (Fence.wide.inRound r) m P Q a W :=
  wpIn_region_any hm (any_toIn hN hQ _ _ _ _ (any_region_aft hB h))
end Go.Proofs.YtapnnheggjahlaaGreatDoor
