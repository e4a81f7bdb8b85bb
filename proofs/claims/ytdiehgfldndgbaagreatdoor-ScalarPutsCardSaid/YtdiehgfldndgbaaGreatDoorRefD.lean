/-
  CONTRACT of the reference: Digits.
-/
import Derived.Test.YtdiehgfldndgbaaGreatDoorGA03
import Derived.Lib.ItoaMem
import Derived.Laws.IdiomStrings
import Derived.Lib.ItoaLen
namespace Go.Proofs.YtdiehgfldndgbaaGreatDoor
open Go.RowKit

theorem dec_step {u : Nat} (h : ¬ u < 10) : Lib.decDigits u = Lib.decDigits (u / 10) ++ [UInt8.ofNat (48 + u % 10)] := by rw [Lib.decDigits, dif_neg h]
end Go.Proofs.YtdiehgfldndgbaaGreatDoor
