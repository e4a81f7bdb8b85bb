/-
  FACTS of the program that the card of ScalarJoins wants, together.
-/
import Derived.Test.YtdiehgfldndgbaaGreatDoorJfA
import Derived.Test.YtdiehgfldndgbaaGreatDoorJfB
import Derived.Test.YtdiehgfldndgbaaGreatDoorQJo
import Derived.Test.YtdiehgfldndgbaaGreatDoorRJo
import Derived.JoinedCond
namespace Go.Proofs.YtdiehgfldndgbaaGreatDoor.cJo

theorem q0 : (Rows.scalarJoinsRow.wf (OpenSpec.ofChange Rows.scalarJoinsSpec)) = true := by kernel_rfl
theorem q3 : (Tryz.f3.params.all (Tryz.pinned.checked.prog.readableRec ·)) = true := by kernel_rfl
theorem q4 : (namedTie Tryz.pinned.checked.prog Rows.scalarJoinsRow.named Rows.scalarJoinsSpec.vars) = true := by kernel_rfl
theorem q5 : ((Rows.scalarJoinsRow.stops == [])) = true := by kernel_rfl
theorem q6 : ((Tryz.pinned.checked.prog.stops == [])) = true := by kernel_rfl
theorem q7 : ((Rows.scalarJoinsRow.knobs == [])) = true := by kernel_rfl
theorem q8 : ((Tryz.pinned.checked.prog.stopKnobs == [])) = true := by kernel_rfl
theorem q13 : ((Rows.scalarJoinsRow.maps == (Tryz.f3.params.toList ++ Rows.scalarJoinsSpec.plain.varTypes Tryz.pinned.checked.prog).any (Tryz.pinned.checked.prog.mapsRec ·))) = true := by kernel_rfl
theorem q14 : ((Rows.scalarJoinsRow.ifaces == (Tryz.f3.params.toList ++ Rows.scalarJoinsSpec.plain.varTypes Tryz.pinned.checked.prog).any (Tryz.pinned.checked.prog.ifacesRec ·))) = true := by kernel_rfl
theorem q15 : ((Rows.scalarJoinsRow.mapsOut == Tryz.pinned.checked.prog.mapsAmong Tryz.f3.resultTypes.toList)) = true := by kernel_rfl
theorem q16 : ((Rows.scalarJoinsRow.loops == (Tryz.f3.params.toList ++ Rows.scalarJoinsSpec.plain.varTypes Tryz.pinned.checked.prog).any (Tryz.pinned.checked.prog.loopsFrom ·))) = true := by kernel_rfl
theorem q17 : ((Rows.scalarJoinsRow.wideKeys == (Tryz.f3.params.toList ++ Rows.scalarJoinsSpec.plain.varTypes Tryz.pinned.checked.prog ++ Tryz.f3.resultTypes.toList).any (Tryz.pinned.checked.prog.wideKeysFrom ·))) = true := by kernel_rfl
theorem q18 : (Rows.scalarJoinsSpec.vars.all (Tryz.pinned.checked.prog.varReadable ·)) = true := by kernel_rfl
theorem q19 : (Tryz.f3.resultTypes.all (fun t => Tryz.pinned.checked.prog.readableRec t && decide (t < Tryz.pinned.checked.prog.types.size))) = true := by kernel_rfl
theorem q20 : ((Rows.scalarJoinsRow.ifacesOut == Tryz.f3.resultTypes.toList.any (Tryz.pinned.checked.prog.ifacesRec ·))) = true := by kernel_rfl
theorem q21 : ((Rows.scalarJoinsRow.loopsOut == Tryz.f3.resultTypes.toList.any (Tryz.pinned.checked.prog.loopsFrom ·))) = true := by kernel_rfl
theorem q23 : (Rows.scalarJoinsRow.shortTexts.isNone) = true := by kernel_rfl
theorem q28 : ((Rows.scalarJoinsRow.kinds == (if Rows.scalarJoinsRow.domain.isEmpty then [] else Tryz.f3.params.toList.map fun t => match Tryz.pinned.checked.prog.underlying t with | some (.int k) => some k | _ => none))) = true := by kernel_rfl
theorem q29 : ((Rows.scalarJoinsRow.pinned == Rows.scalarJoinsRow.pinnedBy)) = true := by kernel_rfl
theorem q30 : ((Rows.scalarJoinsRow.veiled == (Tryz.f3.params.toList ++ Rows.scalarJoinsSpec.plain.varTypes Tryz.pinned.checked.prog ++ Tryz.f3.resultTypes.toList).any (Tryz.pinned.checked.prog.veiledRec ·))) = true := by kernel_rfl
theorem q31 : (Rows.scalarJoinsRow.veiledFits Tryz.pinned.checked.prog Tryz.f3.params.toList (Tryz.f3.params.toList ++ Rows.scalarJoinsSpec.plain.varTypes Tryz.pinned.checked.prog ++ Tryz.f3.resultTypes.toList)) = true := by kernel_rfl
set_option maxRecDepth 100000 in
theorem closed : joinedFacts Tryz.pinned.checked.prog 3 Tryz.f3 (OpenSpec.ofChange Rows.scalarJoinsSpec).bare Rows.scalarJoinsRow = true := by
  unfold joinedFacts
  simp only [Bool.and_eq_true]
  exact ⟨⟨⟨⟨⟨⟨⟨⟨⟨⟨⟨⟨⟨⟨⟨⟨⟨⟨⟨⟨⟨⟨⟨⟨⟨⟨⟨⟨⟨⟨⟨q0, jf1⟩, jf2⟩, q3⟩, q4⟩, q5⟩, q6⟩, q7⟩, q8⟩, q9⟩, q10⟩, q11⟩, q12⟩, q13⟩, q14⟩, q15⟩, q16⟩, q17⟩, q18⟩, q19⟩, q20⟩, q21⟩, q22⟩, q23⟩, jf24⟩, jf25⟩, q26⟩, q27⟩, q28⟩, q29⟩, q30⟩, q31⟩
end Go.Proofs.YtdiehgfldndgbaaGreatDoor.cJo
