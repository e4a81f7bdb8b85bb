/-
  FACTS of the program that the card of ScalarPuts wants, together.
-/
import Derived.Test.YtdiehgfldndgbaaGreatDoorJfA
import Derived.Test.YtdiehgfldndgbaaGreatDoorJfB
import Derived.Test.YtdiehgfldndgbaaGreatDoorJQPu
import Derived.Test.YtdiehgfldndgbaaGreatDoorJRPu
import Derived.JoinedCond
namespace Go.Proofs.YtdiehgfldndgbaaGreatDoor.cPu

theorem q0 : (Rows.scalarPutsRow.wf (OpenSpec.ofChange Rows.scalarPutsSpec)) = true := by kernel_rfl
theorem q3 : (Tryz.f5.params.all (Tryz.pinned.checked.prog.readableRec ·)) = true := by kernel_rfl
theorem q4 : (namedTie Tryz.pinned.checked.prog Rows.scalarPutsRow.named Rows.scalarPutsSpec.vars) = true := by kernel_rfl
theorem q5 : ((Rows.scalarPutsRow.stops == [])) = true := by kernel_rfl
theorem q6 : ((Tryz.pinned.checked.prog.stops == [])) = true := by kernel_rfl
theorem q7 : ((Rows.scalarPutsRow.knobs == [])) = true := by kernel_rfl
theorem q8 : ((Tryz.pinned.checked.prog.stopKnobs == [])) = true := by kernel_rfl
theorem q13 : ((Rows.scalarPutsRow.maps == (Tryz.f5.params.toList ++ Rows.scalarPutsSpec.plain.varTypes Tryz.pinned.checked.prog).any (Tryz.pinned.checked.prog.mapsRec ·))) = true := by kernel_rfl
theorem q14 : ((Rows.scalarPutsRow.ifaces == (Tryz.f5.params.toList ++ Rows.scalarPutsSpec.plain.varTypes Tryz.pinned.checked.prog).any (Tryz.pinned.checked.prog.ifacesRec ·))) = true := by kernel_rfl
theorem q15 : ((Rows.scalarPutsRow.mapsOut == Tryz.pinned.checked.prog.mapsAmong Tryz.f5.resultTypes.toList)) = true := by kernel_rfl
theorem q16 : ((Rows.scalarPutsRow.loops == (Tryz.f5.params.toList ++ Rows.scalarPutsSpec.plain.varTypes Tryz.pinned.checked.prog).any (Tryz.pinned.checked.prog.loopsFrom ·))) = true := by kernel_rfl
theorem q17 : ((Rows.scalarPutsRow.wideKeys == (Tryz.f5.params.toList ++ Rows.scalarPutsSpec.plain.varTypes Tryz.pinned.checked.prog ++ Tryz.f5.resultTypes.toList).any (Tryz.pinned.checked.prog.wideKeysFrom ·))) = true := by kernel_rfl
theorem q18 : (Rows.scalarPutsSpec.vars.all (Tryz.pinned.checked.prog.varReadable ·)) = true := by kernel_rfl
theorem q19 : (Tryz.f5.resultTypes.all (fun t => Tryz.pinned.checked.prog.readableRec t && decide (t < Tryz.pinned.checked.prog.types.size))) = true := by kernel_rfl
theorem q20 : ((Rows.scalarPutsRow.ifacesOut == Tryz.f5.resultTypes.toList.any (Tryz.pinned.checked.prog.ifacesRec ·))) = true := by kernel_rfl
theorem q21 : ((Rows.scalarPutsRow.loopsOut == Tryz.f5.resultTypes.toList.any (Tryz.pinned.checked.prog.loopsFrom ·))) = true := by kernel_rfl
theorem q23 : (Rows.scalarPutsRow.shortTexts.isNone) = true := by kernel_rfl
theorem q28 : ((Rows.scalarPutsRow.kinds == (if Rows.scalarPutsRow.domain.isEmpty then [] else Tryz.f5.params.toList.map fun t => match Tryz.pinned.checked.prog.underlying t with | some (.int k) => some k | _ => none))) = true := by kernel_rfl
theorem q29 : ((Rows.scalarPutsRow.pinned == Rows.scalarPutsRow.pinnedBy)) = true := by kernel_rfl
theorem q30 : ((Rows.scalarPutsRow.veiled == (Tryz.f5.params.toList ++ Rows.scalarPutsSpec.plain.varTypes Tryz.pinned.checked.prog ++ Tryz.f5.resultTypes.toList).any (Tryz.pinned.checked.prog.veiledRec ·))) = true := by kernel_rfl
theorem q31 : (Rows.scalarPutsRow.veiledFits Tryz.pinned.checked.prog Tryz.f5.params.toList (Tryz.f5.params.toList ++ Rows.scalarPutsSpec.plain.varTypes Tryz.pinned.checked.prog ++ Tryz.f5.resultTypes.toList)) = true := by kernel_rfl
set_option maxRecDepth 100000 in
theorem closed : joinedFacts Tryz.pinned.checked.prog 5 Tryz.f5 (OpenSpec.ofChange Rows.scalarPutsSpec).bare Rows.scalarPutsRow = true := by
  unfold joinedFacts
  simp only [Bool.and_eq_true]
  exact ⟨⟨⟨⟨⟨⟨⟨⟨⟨⟨⟨⟨⟨⟨⟨⟨⟨⟨⟨⟨⟨⟨⟨⟨⟨⟨⟨⟨⟨⟨⟨q0, jf1⟩, jf2⟩, q3⟩, q4⟩, q5⟩, q6⟩, q7⟩, q8⟩, q9⟩, q10⟩, q11⟩, q12⟩, q13⟩, q14⟩, q15⟩, q16⟩, q17⟩, q18⟩, q19⟩, q20⟩, q21⟩, q22⟩, q23⟩, jf24⟩, jf25⟩, q26⟩, q27⟩, q28⟩, q29⟩, q30⟩, q31⟩
end Go.Proofs.YtdiehgfldndgbaaGreatDoor.cPu
