/-
  FACTS of the program that the card of ScalarMoves wants, together.
-/
import Derived.Test.YtdiehgfldndgbaaGreatDoorJfA
import Derived.Test.YtdiehgfldndgbaaGreatDoorJfB
import Derived.Test.YtdiehgfldndgbaaGreatDoorQMo
import Derived.Test.YtdiehgfldndgbaaGreatDoorRMo
import Derived.JoinedCond
namespace Go.Proofs.YtdiehgfldndgbaaGreatDoor.cMo

theorem q0 : (Rows.scalarMovesRow.wf (OpenSpec.ofChange Rows.scalarMovesSpec)) = true := by kernel_rfl
theorem q3 : (Tryz.f4.params.all (Tryz.pinned.checked.prog.readableRec ·)) = true := by kernel_rfl
theorem q4 : (namedTie Tryz.pinned.checked.prog Rows.scalarMovesRow.named Rows.scalarMovesSpec.vars) = true := by kernel_rfl
theorem q5 : ((Rows.scalarMovesRow.stops == [])) = true := by kernel_rfl
theorem q6 : ((Tryz.pinned.checked.prog.stops == [])) = true := by kernel_rfl
theorem q7 : ((Rows.scalarMovesRow.knobs == [])) = true := by kernel_rfl
theorem q8 : ((Tryz.pinned.checked.prog.stopKnobs == [])) = true := by kernel_rfl
theorem q13 : ((Rows.scalarMovesRow.maps == (Tryz.f4.params.toList ++ Rows.scalarMovesSpec.plain.varTypes Tryz.pinned.checked.prog).any (Tryz.pinned.checked.prog.mapsRec ·))) = true := by kernel_rfl
theorem q14 : ((Rows.scalarMovesRow.ifaces == (Tryz.f4.params.toList ++ Rows.scalarMovesSpec.plain.varTypes Tryz.pinned.checked.prog).any (Tryz.pinned.checked.prog.ifacesRec ·))) = true := by kernel_rfl
theorem q15 : ((Rows.scalarMovesRow.mapsOut == Tryz.pinned.checked.prog.mapsAmong Tryz.f4.resultTypes.toList)) = true := by kernel_rfl
theorem q16 : ((Rows.scalarMovesRow.loops == (Tryz.f4.params.toList ++ Rows.scalarMovesSpec.plain.varTypes Tryz.pinned.checked.prog).any (Tryz.pinned.checked.prog.loopsFrom ·))) = true := by kernel_rfl
theorem q17 : ((Rows.scalarMovesRow.wideKeys == (Tryz.f4.params.toList ++ Rows.scalarMovesSpec.plain.varTypes Tryz.pinned.checked.prog ++ Tryz.f4.resultTypes.toList).any (Tryz.pinned.checked.prog.wideKeysFrom ·))) = true := by kernel_rfl
theorem q18 : (Rows.scalarMovesSpec.vars.all (Tryz.pinned.checked.prog.varReadable ·)) = true := by kernel_rfl
theorem q19 : (Tryz.f4.resultTypes.all (fun t => Tryz.pinned.checked.prog.readableRec t && decide (t < Tryz.pinned.checked.prog.types.size))) = true := by kernel_rfl
theorem q20 : ((Rows.scalarMovesRow.ifacesOut == Tryz.f4.resultTypes.toList.any (Tryz.pinned.checked.prog.ifacesRec ·))) = true := by kernel_rfl
theorem q21 : ((Rows.scalarMovesRow.loopsOut == Tryz.f4.resultTypes.toList.any (Tryz.pinned.checked.prog.loopsFrom ·))) = true := by kernel_rfl
theorem q23 : (Rows.scalarMovesRow.shortTexts.isNone) = true := by kernel_rfl
theorem q28 : ((Rows.scalarMovesRow.kinds == (if Rows.scalarMovesRow.domain.isEmpty then [] else Tryz.f4.params.toList.map fun t => match Tryz.pinned.checked.prog.underlying t with | some (.int k) => some k | _ => none))) = true := by kernel_rfl
theorem q29 : ((Rows.scalarMovesRow.pinned == Rows.scalarMovesRow.pinnedBy)) = true := by kernel_rfl
theorem q30 : ((Rows.scalarMovesRow.veiled == (Tryz.f4.params.toList ++ Rows.scalarMovesSpec.plain.varTypes Tryz.pinned.checked.prog ++ Tryz.f4.resultTypes.toList).any (Tryz.pinned.checked.prog.veiledRec ·))) = true := by kernel_rfl
theorem q31 : (Rows.scalarMovesRow.veiledFits Tryz.pinned.checked.prog Tryz.f4.params.toList (Tryz.f4.params.toList ++ Rows.scalarMovesSpec.plain.varTypes Tryz.pinned.checked.prog ++ Tryz.f4.resultTypes.toList)) = true := by kernel_rfl
set_option maxRecDepth 100000 in
theorem closed : joinedFacts Tryz.pinned.checked.prog 4 Tryz.f4 (OpenSpec.ofChange Rows.scalarMovesSpec).bare Rows.scalarMovesRow = true := by
  unfold joinedFacts
  simp only [Bool.and_eq_true]
  exact ⟨⟨⟨⟨⟨⟨⟨⟨⟨⟨⟨⟨⟨⟨⟨⟨⟨⟨⟨⟨⟨⟨⟨⟨⟨⟨⟨⟨⟨⟨⟨q0, jf1⟩, jf2⟩, q3⟩, q4⟩, q5⟩, q6⟩, q7⟩, q8⟩, q9⟩, q10⟩, q11⟩, q12⟩, q13⟩, q14⟩, q15⟩, q16⟩, q17⟩, q18⟩, q19⟩, q20⟩, q21⟩, q22⟩, q23⟩, jf24⟩, jf25⟩, q26⟩, q27⟩, q28⟩, q29⟩, q30⟩, q31⟩
end Go.Proofs.YtdiehgfldndgbaaGreatDoor.cMo
