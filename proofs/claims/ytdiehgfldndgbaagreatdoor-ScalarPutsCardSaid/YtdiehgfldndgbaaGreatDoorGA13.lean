/-
  Awake: CONTRACT of the statements' own helper awake: true, whatever came before.
  Cut: CONTRACTS of the statements' helper Cut.
  UniC: A variable that holds a value; '==' and '!=' of two values.
  Srt: PLAIN MATHEMATICS of sorted lists of values: the order is a strict one and total; a sorted list of given values is one and only; each different value once.
  Long: CONTRACT of the statements' helper Long.
-/
import Derived.Test.YtdiehgfldndgbaaGreatDoorGA12
import Derived.Deep.RegionHeld3
import Derived.Test.YtdiehgfldndgbaaGreatDoorGA04
import Derived.Sort.LotA
namespace Go.Proofs.YtdiehgfldndgbaaGreatDoor
open Go.RowKit

theorem rFalse_exact (w : World) :
    Calls Tryz.prog 56 #[.bool false] w fun e w' => e = .returned (.agg #[.int .i64 2, .int .i64 0, .string ⟨#[]⟩]) ∧ w' = w.alloc (.cells #[.int .i64 2, .int .i64 0, .string ⟨#[]⟩] 27) := by
  go_enter Tryz.func56, Tryz.ntmps56
  go_wp2
  exact bodyPost_ret (v := .agg #[.int .i64 2, .int .i64 0, .string ⟨#[]⟩]) (by simp [results, Tryz.results56, go_sem]) rfl ⟨rfl, rfl⟩

theorem join_nil : joinV true [] = ⟨2, 0, ⟨#[]⟩⟩ := rfl

end Go.Proofs.YtdiehgfldndgbaaGreatDoor
namespace Go.Proofs.YtdiehgfldndgbaaGreatDoor
open Go.RowKit

theorem infoV : (Tryz.prog.info? 27).map (fun i => (i.zero, i.size, i.bytes)) = some (some (.agg #[.int .i64 0, .int .i64 0, .string ⟨#[]⟩]), 3, 32) := by kernel_rfl

/-- a value whose text is cut -/
def V.cut (v : V) : V := ⟨v.k, v.n, v.s.extract 0 (min (v.s.size : Int) 202).toNat⟩
def cut (m : Nat) (l : List V) : List V := (l.take m).map V.cut

end Go.Proofs.YtdiehgfldndgbaaGreatDoor
namespace Go.Proofs.YtdiehgfldndgbaaGreatDoor
open Go.RowKit

def zV : V := ⟨0, 0, ⟨#[]⟩⟩
/-- a variable that holds a value: its three cells -/
def C3 (w : World) (g : Nat) (a b : Int) (s : ByteArray) : Prop :=
  g < w.heap.size ∧ w.cell? ⟨g, 0, none⟩ = some (.int .i64 a) ∧ w.cell? ⟨g, 1, none⟩ = some (.int .i64 b) ∧ w.cell? ⟨g, 2, none⟩ = some (.string s)
theorem C3.thn {w w' : World} {g : Nat} {a b : Int} {s : ByteArray} (h : C3 w g a b s) (hb : Below w.heap.size w w') : C3 w' g a b s :=
  ⟨Nat.lt_of_lt_of_le h.1 hb.size, (hb.cell (p := ⟨g, 0, none⟩) h.1).trans h.2.1, (hb.cell (p := ⟨g, 1, none⟩) h.1).trans h.2.2.1, (hb.cell (p := ⟨g, 2, none⟩) h.1).trans h.2.2.2⟩
theorem C3.al {w : World} {g : Nat} {a b : Int} {s : ByteArray} (h : C3 w g a b s) (o : Obj) : C3 (w.alloc o) g a b s := h.thn ((Below.refl _ _).alloc (Nat.le_refl _) o)
theorem C3.new {w : World} {T : TypeId} {a b : Int} {s : ByteArray} : C3 (w.alloc (.cells #[.int .i64 a, .int .i64 b, .string s] T)) w.heap.size a b s :=
  have h := Blk.new w T #[.int .i64 a, .int .i64 b, .string s]
  ⟨h.lt, h.cell 0, h.cell 1, h.cell 2⟩

theorem veq_self (a b : Int) (s : ByteArray) : veq a b s a b s = true := by simp [veq]
theorem veq_iff {a b : Int} {s : ByteArray} {a' b' : Int} {s' : ByteArray} : veq a b s a' b' s' = true ↔ (⟨a, b, s⟩ : V) = ⟨a', b', s'⟩ := by
  unfold veq
  rw [ByteArray.toList_eq, ByteArray.toList_eq]
  obtain ⟨⟨x⟩⟩ := s
  obtain ⟨⟨y⟩⟩ := s'
  simp

end Go.Proofs.YtdiehgfldndgbaaGreatDoor
namespace Go.Proofs.YtdiehgfldndgbaaGreatDoor
open Go.RowKit Go.Sort

theorem cb_self : ∀ a : List UInt8, Lib.compareBytes a a = 0
  | [] => rfl
  | x :: a => by simp [Lib.compareBytes, cb_self a]
theorem cb_eq : ∀ a b : List UInt8, Lib.compareBytes a b = 0 → a = b
  | [], [], _ => rfl
  | [], _ :: _, h => by simp [Lib.compareBytes] at h
  | _ :: _, [], h => by simp [Lib.compareBytes] at h
  | x :: a, y :: b, h => by
    unfold Lib.compareBytes at h
    split at h
    · cases h
    · split at h
      · cases h
      · rename_i h1 h2
        rw [UInt8.lt_iff_toNat_lt] at h1 h2
        have e : x = y := UInt8.toNat_inj.1 (by omega)
        rw [e, cb_eq a b h]
instance : DecidableEq V := fun x y => if h : veq x.k x.n x.s y.k y.n y.s = true then .isTrue (veq_iff.1 h) else .isFalse fun e => h (by subst e; exact veq_self _ _ _)
/-- a value is set behind, if it is not the last one already -/
def ddStep (l : List V) (x : V) : List V := if l.getLast? = some x then l else l ++ [x]
/-- of each run of equal values the first one -/
def dd (l : List V) : List V := l.foldl ddStep []
end Go.Proofs.YtdiehgfldndgbaaGreatDoor
namespace Go.Proofs.YtdiehgfldndgbaaGreatDoor
open Go.RowKit

theorem own_empty (w : World) (e : TypeId) (size : Nat) : (w.alloc (.cells #[] e)).ownsRow w.heap.size e size (.slice (some ⟨w.heap.size, 0, none⟩) 0 0) 0 [] :=
  ⟨by simp, .inr ⟨w.heap.size, 0, #[], rfl, Nat.le_refl _, heap_alloc_new w _, Nat.le_refl _, Nat.zero_le _, by simp, by simp⟩⟩
def lenOf : Value → Nat
  | .slice _ n _ => n
  | _ => 0
end Go.Proofs.YtdiehgfldndgbaaGreatDoor
