/-
  MATHEMATICS: the string of an expression.
-/
import Derived.Test.YtdiehgfldndgbaaGreatDoorGA07
import Derived.Test.YtdiehgfldndgbaaGreatDoorGA12
namespace Go.Proofs.YtdiehgfldndgbaaGreatDoor
open Go.RowKit

def leafB (op n m kind : Int) (lit : V) : List UInt8 :=
  if op = 1 then 36 :: Lib.itoa n
  else if op = 2 then 94 :: (Lib.itoa n ++ 46 :: Lib.itoa m)
  else if lit.k = 0 then [110, 117, 108, 108, 58] ++ (kwB kind).data.toList
  else strB lit.k lit.n lit.s
mutual
/-- the string of an expression -/
def strE : E → List UInt8
  | .mk op n m kind lit args _ => if op < 4 then leafB op n m kind lit else wordL op ++ 40 :: (joinS (strL args) ++ [41])
def strL : List E → List (List UInt8)
  | [] => []
  | e :: l => strE e :: strL l
end
theorem strL_map : ∀ l : List E, strL l = l.map strE
  | [] => by simp [strL]
  | e :: l => by rw [strL, strL_map l, List.map_cons]
theorem strE_of (e : E) : strE e = if e.op < 4 then leafB e.op e.n e.m e.kind e.lit else wordL e.op ++ 40 :: (joinS (e.args.map strE) ++ [41]) := by
  cases e
  rw [strE, strL_map]; rfl
end Go.Proofs.YtdiehgfldndgbaaGreatDoor
