/-
  DERIVED. GIVEN WITH THE SEED: THE CARDS: each row of YtapnnheggjahlaaGreatDoorRows.lean that lists a variable, with what it lists TIED to the program's text (the seventh form; the later family's looks); each row that meets fmt, with fmt's text TOLD by the authors' own Lean function (tested against real Go, not proved from fmt's source: count such statements apart). THE CARD IS WHAT COUNTS. Prove the row's statement (the work); the ties are given (YtapnnheggjahlaaGreatDoorTie.lean); close each card by the builder's one call (the guide's Derived/Test/ToyasCard.lean, 'card_holds'). Laid BY PROGRAM, IN A SANDBOX (cutbox-door.mjs). By AI agents, Wed Nov 11 2026. No macro, syntax, notation, axiom, sorry.
-/
import Derived.Test.YtapnnheggjahlaaGreatDoorRows
import GoSem.ClaimSeven
namespace Go.Proofs.YtapnnheggjahlaaGreatDoor
namespace Rows

/-- THE TIED CARD OF 'tacticianlaw02.RowsForms'. -/
def rowsFormsCard : Claim7 := { stood := { row := rowsFormsRow, standIns := [], harness := (true, "fb21655c4218d5f8cf2ec8e79448d1c3c353524893c6114ba54cc29750f63557"), looks := true }, kinds := [], alts := [], laidByText := true, laidKinds := [.data, .data, .data, .data, .data, .pinned], laidTests := true, laidLooks := .later }
def RowsFormsCardSaid : Prop := Claim7.holds Tryz.pinned (.plain (OpenSpec.ofChange rowsFormsSpec)) rowsFormsCard

/-- THE TIED CARD OF 'tacticianlaw02.RowsOrders'. -/
def rowsOrdersCard : Claim7 := { stood := { row := rowsOrdersRow, standIns := [], harness := (true, "fb21655c4218d5f8cf2ec8e79448d1c3c353524893c6114ba54cc29750f63557"), looks := true }, kinds := [], alts := [], laidByText := true, laidKinds := [.data, .data, .data, .data, .data, .pinned], laidTests := true, laidLooks := .later }
def RowsOrdersCardSaid : Prop := Claim7.holds Tryz.pinned (.plain (OpenSpec.ofChange rowsOrdersSpec)) rowsOrdersCard

/-- THE TIED CARD OF 'tacticianlaw02.RowsBags'. -/
def rowsBagsCard : Claim7 := { stood := { row := rowsBagsRow, standIns := [], harness := (true, "fb21655c4218d5f8cf2ec8e79448d1c3c353524893c6114ba54cc29750f63557"), looks := true }, kinds := [], alts := [], laidByText := true, laidKinds := [.data, .data, .data, .data, .data, .pinned], laidTests := true, laidLooks := .later }
def RowsBagsCardSaid : Prop := Claim7.holds Tryz.pinned (.plain (OpenSpec.ofChange rowsBagsSpec)) rowsBagsCard

/-- THE TIED CARD OF 'tacticianlaw02.RowsSets'. -/
def rowsSetsCard : Claim7 := { stood := { row := rowsSetsRow, standIns := [], harness := (true, "fb21655c4218d5f8cf2ec8e79448d1c3c353524893c6114ba54cc29750f63557"), looks := true }, kinds := [], alts := [], laidByText := true, laidKinds := [.data, .data, .data, .data, .data, .pinned], laidTests := true, laidLooks := .later }
def RowsSetsCardSaid : Prop := Claim7.holds Tryz.pinned (.plain (OpenSpec.ofChange rowsSetsSpec)) rowsSetsCard

/-- THE TIED CARD OF 'tacticianlaw02.RowsGroups'. -/
def rowsGroupsCard : Claim7 := { stood := { row := rowsGroupsRow, standIns := [], harness := (true, "fb21655c4218d5f8cf2ec8e79448d1c3c353524893c6114ba54cc29750f63557"), looks := true }, kinds := [], alts := [], laidByText := true, laidKinds := [.data, .data, .data, .data, .data, .pinned], laidTests := true, laidLooks := .later }
def RowsGroupsCardSaid : Prop := Claim7.holds Tryz.pinned (.plain (OpenSpec.ofChange rowsGroupsSpec)) rowsGroupsCard

/-- THE TIED CARD OF 'tacticianlaw02.RowsOrdered'. -/
def rowsOrderedCard : Claim7 := { stood := { row := rowsOrderedRow, standIns := [], harness := (true, "fb21655c4218d5f8cf2ec8e79448d1c3c353524893c6114ba54cc29750f63557"), looks := true }, kinds := [], alts := [], laidByText := true, laidKinds := [.data, .data, .data, .data, .data, .pinned], laidTests := true, laidLooks := .later }
def RowsOrderedCardSaid : Prop := Claim7.holds Tryz.pinned (.plain (OpenSpec.ofChange rowsOrderedSpec)) rowsOrderedCard

/-- THE TIED CARD OF 'tacticianlaw02.RowsStrings'. -/
def rowsStringsCard : Claim7 := { stood := { row := rowsStringsRow, standIns := [], harness := (true, "fb21655c4218d5f8cf2ec8e79448d1c3c353524893c6114ba54cc29750f63557"), looks := true }, kinds := [], alts := [], laidByText := true, laidKinds := [.data, .data, .data, .data, .sentinel, .sentinel, .data, .pinned], laidTests := true, laidLooks := .later }
def RowsStringsCardSaid : Prop := Claim7.holds Tryz.pinned (.plain (OpenSpec.ofChange rowsStringsSpec)) rowsStringsCard

/-- THE TIED CARD OF 'tacticianlaw02.RowsTogether'. -/
def rowsTogetherCard : Claim7 := { stood := { row := rowsTogetherRow, standIns := [], harness := (true, "fb21655c4218d5f8cf2ec8e79448d1c3c353524893c6114ba54cc29750f63557"), looks := true }, kinds := [], alts := [], laidByText := true, laidKinds := [.data, .data, .data, .data, .data, .pinned], laidTests := true, laidLooks := .later }
def RowsTogetherCardSaid : Prop := Claim7.holds Tryz.pinned (.plain (OpenSpec.ofChange rowsTogetherSpec)) rowsTogetherCard

/-- THE TIED CARD OF 'tacticianlaw02.RowsApart'. -/
def rowsApartCard : Claim7 := { stood := { row := rowsApartRow, standIns := [], harness := (true, "fb21655c4218d5f8cf2ec8e79448d1c3c353524893c6114ba54cc29750f63557"), looks := true }, kinds := [], alts := [], laidByText := true, laidKinds := [.data, .data, .data, .data, .data, .pinned], laidTests := true, laidLooks := .later }
def RowsApartCardSaid : Prop := Claim7.holds Tryz.pinned (.plain (OpenSpec.ofChange rowsApartSpec)) rowsApartCard

/-- THE TIED CARD OF 'tacticianlaw02.RowsBack'. -/
def rowsBackCard : Claim7 := { stood := { row := rowsBackRow, standIns := [], harness := (true, "fb21655c4218d5f8cf2ec8e79448d1c3c353524893c6114ba54cc29750f63557"), looks := true }, kinds := [], alts := [], laidByText := true, laidKinds := [.data, .data, .data, .data, .sentinel, .sentinel, .data, .pinned], laidTests := true, laidLooks := .later }
def RowsBackCardSaid : Prop := Claim7.holds Tryz.pinned (.plain (OpenSpec.ofChange rowsBackSpec)) rowsBackCard

/-- THE TIED CARD OF 'tacticianlaw02.RowsOwn'. -/
def rowsOwnCard : Claim7 := { stood := { row := rowsOwnRow, standIns := [], harness := (true, "fb21655c4218d5f8cf2ec8e79448d1c3c353524893c6114ba54cc29750f63557"), looks := true }, kinds := [], alts := [], laidByText := true, laidKinds := [.data, .data, .data, .data, .data, .pinned], laidTests := true, laidLooks := .later }
def RowsOwnCardSaid : Prop := Claim7.holds Tryz.pinned (.plain (OpenSpec.ofChange rowsOwnSpec)) rowsOwnCard

/-- THE SECOND FORM's CARD OF 'tacticianlaw02.RowsForms'. -/
def rowsFormsUptoCard : Claim7 := { stood := { row := rowsFormsUptoRow, standIns := [], harness := (true, "fb21655c4218d5f8cf2ec8e79448d1c3c353524893c6114ba54cc29750f63557"), looks := true }, kinds := [], alts := [], laidByText := true, laidKinds := [.data, .data, .data, .data, .data, .pinned], laidTests := true, laidLooks := .later }
def RowsFormsUptoCardSaid : Prop := Claim7.holds Tryz.pinned (.plain (OpenSpec.upto rowsFormsSpec)) rowsFormsUptoCard

/-- THE SECOND FORM's CARD OF 'tacticianlaw02.RowsOrders'. -/
def rowsOrdersUptoCard : Claim7 := { stood := { row := rowsOrdersUptoRow, standIns := [], harness := (true, "fb21655c4218d5f8cf2ec8e79448d1c3c353524893c6114ba54cc29750f63557"), looks := true }, kinds := [], alts := [], laidByText := true, laidKinds := [.data, .data, .data, .data, .data, .pinned], laidTests := true, laidLooks := .later }
def RowsOrdersUptoCardSaid : Prop := Claim7.holds Tryz.pinned (.plain (OpenSpec.upto rowsOrdersSpec)) rowsOrdersUptoCard

/-- THE SECOND FORM's CARD OF 'tacticianlaw02.RowsBags'. -/
def rowsBagsUptoCard : Claim7 := { stood := { row := rowsBagsUptoRow, standIns := [], harness := (true, "fb21655c4218d5f8cf2ec8e79448d1c3c353524893c6114ba54cc29750f63557"), looks := true }, kinds := [], alts := [], laidByText := true, laidKinds := [.data, .data, .data, .data, .data, .pinned], laidTests := true, laidLooks := .later }
def RowsBagsUptoCardSaid : Prop := Claim7.holds Tryz.pinned (.plain (OpenSpec.upto rowsBagsSpec)) rowsBagsUptoCard

/-- THE SECOND FORM's CARD OF 'tacticianlaw02.RowsSets'. -/
def rowsSetsUptoCard : Claim7 := { stood := { row := rowsSetsUptoRow, standIns := [], harness := (true, "fb21655c4218d5f8cf2ec8e79448d1c3c353524893c6114ba54cc29750f63557"), looks := true }, kinds := [], alts := [], laidByText := true, laidKinds := [.data, .data, .data, .data, .data, .pinned], laidTests := true, laidLooks := .later }
def RowsSetsUptoCardSaid : Prop := Claim7.holds Tryz.pinned (.plain (OpenSpec.upto rowsSetsSpec)) rowsSetsUptoCard

/-- THE SECOND FORM's CARD OF 'tacticianlaw02.RowsGroups'. -/
def rowsGroupsUptoCard : Claim7 := { stood := { row := rowsGroupsUptoRow, standIns := [], harness := (true, "fb21655c4218d5f8cf2ec8e79448d1c3c353524893c6114ba54cc29750f63557"), looks := true }, kinds := [], alts := [], laidByText := true, laidKinds := [.data, .data, .data, .data, .data, .pinned], laidTests := true, laidLooks := .later }
def RowsGroupsUptoCardSaid : Prop := Claim7.holds Tryz.pinned (.plain (OpenSpec.upto rowsGroupsSpec)) rowsGroupsUptoCard

/-- THE SECOND FORM's CARD OF 'tacticianlaw02.RowsOrdered'. -/
def rowsOrderedUptoCard : Claim7 := { stood := { row := rowsOrderedUptoRow, standIns := [], harness := (true, "fb21655c4218d5f8cf2ec8e79448d1c3c353524893c6114ba54cc29750f63557"), looks := true }, kinds := [], alts := [], laidByText := true, laidKinds := [.data, .data, .data, .data, .data, .pinned], laidTests := true, laidLooks := .later }
def RowsOrderedUptoCardSaid : Prop := Claim7.holds Tryz.pinned (.plain (OpenSpec.upto rowsOrderedSpec)) rowsOrderedUptoCard

/-- THE SECOND FORM's CARD OF 'tacticianlaw02.RowsStrings'. -/
def rowsStringsUptoCard : Claim7 := { stood := { row := rowsStringsUptoRow, standIns := [], harness := (true, "fb21655c4218d5f8cf2ec8e79448d1c3c353524893c6114ba54cc29750f63557"), looks := true }, kinds := [], alts := [], laidByText := true, laidKinds := [.data, .data, .data, .data, .sentinel, .sentinel, .data, .pinned], laidTests := true, laidLooks := .later }
def RowsStringsUptoCardSaid : Prop := Claim7.holds Tryz.pinned (.plain (OpenSpec.upto rowsStringsSpec)) rowsStringsUptoCard

/-- THE SECOND FORM's CARD OF 'tacticianlaw02.RowsTogether'. -/
def rowsTogetherUptoCard : Claim7 := { stood := { row := rowsTogetherUptoRow, standIns := [], harness := (true, "fb21655c4218d5f8cf2ec8e79448d1c3c353524893c6114ba54cc29750f63557"), looks := true }, kinds := [], alts := [], laidByText := true, laidKinds := [.data, .data, .data, .data, .data, .pinned], laidTests := true, laidLooks := .later }
def RowsTogetherUptoCardSaid : Prop := Claim7.holds Tryz.pinned (.plain (OpenSpec.upto rowsTogetherSpec)) rowsTogetherUptoCard

/-- THE SECOND FORM's CARD OF 'tacticianlaw02.RowsApart'. -/
def rowsApartUptoCard : Claim7 := { stood := { row := rowsApartUptoRow, standIns := [], harness := (true, "fb21655c4218d5f8cf2ec8e79448d1c3c353524893c6114ba54cc29750f63557"), looks := true }, kinds := [], alts := [], laidByText := true, laidKinds := [.data, .data, .data, .data, .data, .pinned], laidTests := true, laidLooks := .later }
def RowsApartUptoCardSaid : Prop := Claim7.holds Tryz.pinned (.plain (OpenSpec.upto rowsApartSpec)) rowsApartUptoCard

/-- THE SECOND FORM's CARD OF 'tacticianlaw02.RowsBack'. -/
def rowsBackUptoCard : Claim7 := { stood := { row := rowsBackUptoRow, standIns := [], harness := (true, "fb21655c4218d5f8cf2ec8e79448d1c3c353524893c6114ba54cc29750f63557"), looks := true }, kinds := [], alts := [], laidByText := true, laidKinds := [.data, .data, .data, .data, .sentinel, .sentinel, .data, .pinned], laidTests := true, laidLooks := .later }
def RowsBackUptoCardSaid : Prop := Claim7.holds Tryz.pinned (.plain (OpenSpec.upto rowsBackSpec)) rowsBackUptoCard

/-- THE SECOND FORM's CARD OF 'tacticianlaw02.RowsOwn'. -/
def rowsOwnUptoCard : Claim7 := { stood := { row := rowsOwnUptoRow, standIns := [], harness := (true, "fb21655c4218d5f8cf2ec8e79448d1c3c353524893c6114ba54cc29750f63557"), looks := true }, kinds := [], alts := [], laidByText := true, laidKinds := [.data, .data, .data, .data, .data, .pinned], laidTests := true, laidLooks := .later }
def RowsOwnUptoCardSaid : Prop := Claim7.holds Tryz.pinned (.plain (OpenSpec.upto rowsOwnSpec)) rowsOwnUptoCard
end Rows
end Go.Proofs.YtapnnheggjahlaaGreatDoor
