/-
  DERIVED. GIVEN WITH THE SEED: THE CARDS: each row of YtcbcncaoabablaaGreatDoorRows.lean that lists a variable, with what it lists TIED to the program's text (the seventh form; the later family's looks); each row that meets fmt, with fmt's text TOLD by the authors' own Lean function (tested against real Go, not proved from fmt's source: count such statements apart). THE CARD IS WHAT COUNTS. Prove the row's statement (the work); the ties are given (YtcbcncaoabablaaGreatDoorTie.lean); close each card by the builder's one call (the guide's Derived/Test/ToyasCard.lean, 'card_holds'). Laid BY PROGRAM, IN A SANDBOX (cutbox-door.mjs). By AI agents, Wed Nov 11 2026. No macro, syntax, notation, axiom, sorry.
-/
import Derived.Test.YtcbcncaoabablaaGreatDoorRows
import GoSem.ClaimSeven
namespace Go.Proofs.YtcbcncaoabablaaGreatDoor
namespace Rows

/-- THE TIED CARD OF 'tacticianlaw03.ScalarForms'. -/
def scalarFormsCard : Claim7 := { stood := { row := scalarFormsRow, standIns := [], harness := (true, "6b6b27777afd7ee08fceb19d5f83acfa0b032bc637236db5ab952540b84c952d"), looks := true }, kinds := [], alts := [], laidByText := true, laidKinds := [.data, .data, .data, .data, .sentinel, .sentinel, .data, .data, .data, .pinned], laidTests := true, laidLooks := .later }
def ScalarFormsCardSaid : Prop := Claim7.holds Tryz.pinned (.plain (OpenSpec.ofChange scalarFormsSpec)) scalarFormsCard

/-- THE TIED CARD OF 'tacticianlaw03.ScalarKinds'. -/
def scalarKindsCard : Claim7 := { stood := { row := scalarKindsRow, standIns := [], harness := (true, "6b6b27777afd7ee08fceb19d5f83acfa0b032bc637236db5ab952540b84c952d"), looks := true }, kinds := [], alts := [], laidByText := true, laidKinds := [.data, .data, .data, .data, .sentinel, .sentinel, .data, .data, .data, .pinned], laidTests := true, laidLooks := .later }
def ScalarKindsCardSaid : Prop := Claim7.holds Tryz.pinned (.plain (OpenSpec.ofChange scalarKindsSpec)) scalarKindsCard

/-- THE TIED CARD OF 'tacticianlaw03.ScalarValues'. -/
def scalarValuesCard : Claim7 := { stood := { row := scalarValuesRow, standIns := [], harness := (true, "6b6b27777afd7ee08fceb19d5f83acfa0b032bc637236db5ab952540b84c952d"), looks := true }, kinds := [], alts := [], laidByText := true, laidKinds := [.data, .data, .data, .data, .sentinel, .sentinel, .data, .data, .data, .pinned], laidTests := true, laidLooks := .later }
def ScalarValuesCardSaid : Prop := Claim7.holds Tryz.pinned (.plain (OpenSpec.ofChange scalarValuesSpec)) scalarValuesCard

/-- THE TIED CARD OF 'tacticianlaw03.ScalarSames'. -/
def scalarSamesCard : Claim7 := { stood := { row := scalarSamesRow, standIns := [], harness := (true, "6b6b27777afd7ee08fceb19d5f83acfa0b032bc637236db5ab952540b84c952d"), looks := true }, kinds := [], alts := [], laidByText := true, laidKinds := [.data, .data, .data, .data, .sentinel, .sentinel, .data, .data, .data, .pinned], laidTests := true, laidLooks := .later }
def ScalarSamesCardSaid : Prop := Claim7.holds Tryz.pinned (.plain (OpenSpec.ofChange scalarSamesSpec)) scalarSamesCard

/-- THE SECOND FORM's CARD OF 'tacticianlaw03.ScalarForms'. -/
def scalarFormsUptoCard : Claim7 := { stood := { row := scalarFormsUptoRow, standIns := [], harness := (true, "6b6b27777afd7ee08fceb19d5f83acfa0b032bc637236db5ab952540b84c952d"), looks := true }, kinds := [], alts := [], laidByText := true, laidKinds := [.data, .data, .data, .data, .sentinel, .sentinel, .data, .data, .data, .pinned], laidTests := true, laidLooks := .later }
def ScalarFormsUptoCardSaid : Prop := Claim7.holds Tryz.pinned (.plain (OpenSpec.upto scalarFormsSpec)) scalarFormsUptoCard

/-- THE SECOND FORM's CARD OF 'tacticianlaw03.ScalarKinds'. -/
def scalarKindsUptoCard : Claim7 := { stood := { row := scalarKindsUptoRow, standIns := [], harness := (true, "6b6b27777afd7ee08fceb19d5f83acfa0b032bc637236db5ab952540b84c952d"), looks := true }, kinds := [], alts := [], laidByText := true, laidKinds := [.data, .data, .data, .data, .sentinel, .sentinel, .data, .data, .data, .pinned], laidTests := true, laidLooks := .later }
def ScalarKindsUptoCardSaid : Prop := Claim7.holds Tryz.pinned (.plain (OpenSpec.upto scalarKindsSpec)) scalarKindsUptoCard

/-- THE SECOND FORM's CARD OF 'tacticianlaw03.ScalarValues'. -/
def scalarValuesUptoCard : Claim7 := { stood := { row := scalarValuesUptoRow, standIns := [], harness := (true, "6b6b27777afd7ee08fceb19d5f83acfa0b032bc637236db5ab952540b84c952d"), looks := true }, kinds := [], alts := [], laidByText := true, laidKinds := [.data, .data, .data, .data, .sentinel, .sentinel, .data, .data, .data, .pinned], laidTests := true, laidLooks := .later }
def ScalarValuesUptoCardSaid : Prop := Claim7.holds Tryz.pinned (.plain (OpenSpec.upto scalarValuesSpec)) scalarValuesUptoCard

/-- THE SECOND FORM's CARD OF 'tacticianlaw03.ScalarSames'. -/
def scalarSamesUptoCard : Claim7 := { stood := { row := scalarSamesUptoRow, standIns := [], harness := (true, "6b6b27777afd7ee08fceb19d5f83acfa0b032bc637236db5ab952540b84c952d"), looks := true }, kinds := [], alts := [], laidByText := true, laidKinds := [.data, .data, .data, .data, .sentinel, .sentinel, .data, .data, .data, .pinned], laidTests := true, laidLooks := .later }
def ScalarSamesUptoCardSaid : Prop := Claim7.holds Tryz.pinned (.plain (OpenSpec.upto scalarSamesSpec)) scalarSamesUptoCard
end Rows
end Go.Proofs.YtcbcncaoabablaaGreatDoor
