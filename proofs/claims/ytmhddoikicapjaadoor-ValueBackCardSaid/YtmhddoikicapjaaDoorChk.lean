/-
  CONTRACT of package value: Check.
-/
import Derived.Test.YtmhddoikicapjaaDoorUniC
namespace Go.Proofs.YtmhddoikicapjaaDoor
open Go.RowKit

set_option maxHeartbeats 400000 in
theorem Check_any (k n : Int) (s : ByteArray) (w : World) (hs : s.size ≤ maxLen) :
    Calls Tryd.prog 12 #[.agg #[.int .i64 k, .int .i64 n, .string s]] w fun e w' => e = .returned (.int .i64 (chk [⟨k, n, s⟩])) ∧ Below w.heap.size w w' := by
  go_enter Tryd.func12, Tryd.ntmps12
  go_wp2_with fail
  refine (check_any _ _ [⟨k, n, s⟩] _ (VReads.one (Blk.new' (g := w.heap.size + 1) (by simp)) (by simp)) (VFit.one hs) (by simp [maxLen])).mono ?_
  rintro e w1 ⟨rfl, hb1⟩
  go_wp2_with fail
  go_ret
  exact ⟨rfl, thn (al (al (Below.refl _ w) _) _) hb1⟩
end Go.Proofs.YtmhddoikicapjaaDoor
