/-
  DERIVED. GIVEN WITH THE SEED: THE CARDS: each row of YtdiehgfldndgbaaGreatDoorRows.lean that lists a variable, with what it lists TIED to the program's text (the seventh form; the later family's looks); each row that meets fmt, with fmt's text TOLD by the authors' own Lean function (tested against real Go, not proved from fmt's source: count such statements apart). THE CARD IS WHAT COUNTS. Prove the row's statement (the work); the ties are given (YtdiehgfldndgbaaGreatDoorTie.lean); close each card by the builder's one call (the guide's Derived/Test/ToyasCard.lean, 'card_holds'). Laid BY PROGRAM, IN A SANDBOX (cutbox-door.mjs). By AI agents, Wed Nov 11 2026. No macro, syntax, notation, axiom, sorry.
-/
import Derived.Test.YtdiehgfldndgbaaGreatDoorRows
import GoSem.ClaimSeven
namespace Go.Proofs.YtdiehgfldndgbaaGreatDoor
namespace Rows

/-- THE TIED CARD OF 'tacticianlaw03.ScalarJoins'. -/
def scalarJoinsCard : Claim7 := { stood := { row := scalarJoinsRow, standIns := [], harness := (true, "a31286f98940b8a6364646d35a0be43d497ef2162ba46f76475af205e8ea9ecc"), looks := true }, kinds := [], alts := [], laidByText := true, laidKinds := [.data, .data, .data, .data, .sentinel, .sentinel, .data, .data, .data, .pinned], laidTests := true, laidLooks := .later }
def ScalarJoinsCardSaid : Prop := Claim7.holds Tryz.pinned (.plain (OpenSpec.ofChange scalarJoinsSpec)) scalarJoinsCard

/-- THE TIED CARD OF 'tacticianlaw03.ScalarMoves'. -/
def scalarMovesCard : Claim7 := { stood := { row := scalarMovesRow, standIns := [], harness := (true, "a31286f98940b8a6364646d35a0be43d497ef2162ba46f76475af205e8ea9ecc"), looks := true }, kinds := [], alts := [], laidByText := true, laidKinds := [.data, .data, .data, .data, .sentinel, .sentinel, .data, .data, .data, .pinned], laidTests := true, laidLooks := .later }
def ScalarMovesCardSaid : Prop := Claim7.holds Tryz.pinned (.plain (OpenSpec.ofChange scalarMovesSpec)) scalarMovesCard

/-- THE TIED CARD OF 'tacticianlaw03.ScalarPuts'. -/
def scalarPutsCard : Claim7 := { stood := { row := scalarPutsRow, standIns := [], harness := (true, "a31286f98940b8a6364646d35a0be43d497ef2162ba46f76475af205e8ea9ecc"), looks := true }, kinds := [], alts := [], laidByText := true, laidKinds := [.data, .data, .data, .data, .sentinel, .sentinel, .data, .data, .data, .pinned], laidTests := true, laidLooks := .later }
def ScalarPutsCardSaid : Prop := Claim7.holds Tryz.pinned (.plain (OpenSpec.ofChange scalarPutsSpec)) scalarPutsCard

/-- THE TIED CARD OF 'tacticianlaw03.ScalarParses'. -/
def scalarParsesCard : Claim7 := { stood := { row := scalarParsesRow, standIns := [], harness := (true, "a31286f98940b8a6364646d35a0be43d497ef2162ba46f76475af205e8ea9ecc"), looks := true }, kinds := [], alts := [], laidByText := true, laidKinds := [.data, .data, .data, .data, .sentinel, .sentinel, .data, .data, .data, .pinned], laidTests := true, laidLooks := .later }
def ScalarParsesCardSaid : Prop := Claim7.holds Tryz.pinned (.plain (OpenSpec.ofChange scalarParsesSpec)) scalarParsesCard

/-- THE TIED CARD OF 'tacticianlaw03.ScalarBack'. -/
def scalarBackCard : Claim7 := { stood := { row := scalarBackRow, standIns := [], harness := (true, "a31286f98940b8a6364646d35a0be43d497ef2162ba46f76475af205e8ea9ecc"), looks := true }, kinds := [], alts := [], laidByText := true, laidKinds := [.data, .data, .data, .data, .sentinel, .sentinel, .data, .data, .data, .pinned], laidTests := true, laidLooks := .later }
def ScalarBackCardSaid : Prop := Claim7.holds Tryz.pinned (.plain (OpenSpec.ofChange scalarBackSpec)) scalarBackCard

/-- THE TIED CARD OF 'tacticianlaw03.ScalarTruth'. -/
def scalarTruthCard : Claim7 := { stood := { row := scalarTruthRow, standIns := [], harness := (true, "a31286f98940b8a6364646d35a0be43d497ef2162ba46f76475af205e8ea9ecc"), looks := true }, kinds := [], alts := [], laidByText := true, laidKinds := [.data, .data, .data, .data, .sentinel, .sentinel, .data, .data, .data, .pinned], laidTests := true, laidLooks := .later }
def ScalarTruthCardSaid : Prop := Claim7.holds Tryz.pinned (.plain (OpenSpec.ofChange scalarTruthSpec)) scalarTruthCard

/-- THE TIED CARD OF 'tacticianlaw03.ScalarComputes'. -/
def scalarComputesCard : Claim7 := { stood := { row := scalarComputesRow, standIns := [], harness := (true, "a31286f98940b8a6364646d35a0be43d497ef2162ba46f76475af205e8ea9ecc"), looks := true }, kinds := [], alts := [], laidByText := true, laidKinds := [.data, .data, .data, .data, .sentinel, .sentinel, .data, .data, .data, .pinned], laidTests := true, laidLooks := .later }
def ScalarComputesCardSaid : Prop := Claim7.holds Tryz.pinned (.plain (OpenSpec.ofChange scalarComputesSpec)) scalarComputesCard

/-- THE TIED CARD OF 'tacticianlaw03.ScalarFits'. -/
def scalarFitsCard : Claim7 := { stood := { row := scalarFitsRow, standIns := [], harness := (true, "a31286f98940b8a6364646d35a0be43d497ef2162ba46f76475af205e8ea9ecc"), looks := true }, kinds := [], alts := [], laidByText := true, laidKinds := [.data, .data, .data, .data, .sentinel, .sentinel, .data, .data, .data, .pinned], laidTests := true, laidLooks := .later }
def ScalarFitsCardSaid : Prop := Claim7.holds Tryz.pinned (.plain (OpenSpec.ofChange scalarFitsSpec)) scalarFitsCard

/-- THE TIED CARD OF 'tacticianlaw03.ScalarPlaces'. -/
def scalarPlacesCard : Claim7 := { stood := { row := scalarPlacesRow, standIns := [], harness := (true, "a31286f98940b8a6364646d35a0be43d497ef2162ba46f76475af205e8ea9ecc"), looks := true }, kinds := [], alts := [], laidByText := true, laidKinds := [.data, .data, .data, .data, .sentinel, .sentinel, .data, .data, .data, .pinned], laidTests := true, laidLooks := .later }
def ScalarPlacesCardSaid : Prop := Claim7.holds Tryz.pinned (.plain (OpenSpec.ofChange scalarPlacesSpec)) scalarPlacesCard

/-- THE TIED CARD OF 'tacticianlaw03.ScalarOwn'. -/
def scalarOwnCard : Claim7 := { stood := { row := scalarOwnRow, standIns := [], harness := (true, "a31286f98940b8a6364646d35a0be43d497ef2162ba46f76475af205e8ea9ecc"), looks := true }, kinds := [], alts := [], laidByText := true, laidKinds := [.data, .data, .data, .data, .sentinel, .sentinel, .data, .data, .data, .pinned], laidTests := true, laidLooks := .later }
def ScalarOwnCardSaid : Prop := Claim7.holds Tryz.pinned (.plain (OpenSpec.ofChange scalarOwnSpec)) scalarOwnCard

/-- THE SECOND FORM's CARD OF 'tacticianlaw03.ScalarJoins'. -/
def scalarJoinsUptoCard : Claim7 := { stood := { row := scalarJoinsUptoRow, standIns := [], harness := (true, "a31286f98940b8a6364646d35a0be43d497ef2162ba46f76475af205e8ea9ecc"), looks := true }, kinds := [], alts := [], laidByText := true, laidKinds := [.data, .data, .data, .data, .sentinel, .sentinel, .data, .data, .data, .pinned], laidTests := true, laidLooks := .later }
def ScalarJoinsUptoCardSaid : Prop := Claim7.holds Tryz.pinned (.plain (OpenSpec.upto scalarJoinsSpec)) scalarJoinsUptoCard

/-- THE SECOND FORM's CARD OF 'tacticianlaw03.ScalarMoves'. -/
def scalarMovesUptoCard : Claim7 := { stood := { row := scalarMovesUptoRow, standIns := [], harness := (true, "a31286f98940b8a6364646d35a0be43d497ef2162ba46f76475af205e8ea9ecc"), looks := true }, kinds := [], alts := [], laidByText := true, laidKinds := [.data, .data, .data, .data, .sentinel, .sentinel, .data, .data, .data, .pinned], laidTests := true, laidLooks := .later }
def ScalarMovesUptoCardSaid : Prop := Claim7.holds Tryz.pinned (.plain (OpenSpec.upto scalarMovesSpec)) scalarMovesUptoCard

/-- THE SECOND FORM's CARD OF 'tacticianlaw03.ScalarPuts'. -/
def scalarPutsUptoCard : Claim7 := { stood := { row := scalarPutsUptoRow, standIns := [], harness := (true, "a31286f98940b8a6364646d35a0be43d497ef2162ba46f76475af205e8ea9ecc"), looks := true }, kinds := [], alts := [], laidByText := true, laidKinds := [.data, .data, .data, .data, .sentinel, .sentinel, .data, .data, .data, .pinned], laidTests := true, laidLooks := .later }
def ScalarPutsUptoCardSaid : Prop := Claim7.holds Tryz.pinned (.plain (OpenSpec.upto scalarPutsSpec)) scalarPutsUptoCard

/-- THE SECOND FORM's CARD OF 'tacticianlaw03.ScalarParses'. -/
def scalarParsesUptoCard : Claim7 := { stood := { row := scalarParsesUptoRow, standIns := [], harness := (true, "a31286f98940b8a6364646d35a0be43d497ef2162ba46f76475af205e8ea9ecc"), looks := true }, kinds := [], alts := [], laidByText := true, laidKinds := [.data, .data, .data, .data, .sentinel, .sentinel, .data, .data, .data, .pinned], laidTests := true, laidLooks := .later }
def ScalarParsesUptoCardSaid : Prop := Claim7.holds Tryz.pinned (.plain (OpenSpec.upto scalarParsesSpec)) scalarParsesUptoCard

/-- THE SECOND FORM's CARD OF 'tacticianlaw03.ScalarBack'. -/
def scalarBackUptoCard : Claim7 := { stood := { row := scalarBackUptoRow, standIns := [], harness := (true, "a31286f98940b8a6364646d35a0be43d497ef2162ba46f76475af205e8ea9ecc"), looks := true }, kinds := [], alts := [], laidByText := true, laidKinds := [.data, .data, .data, .data, .sentinel, .sentinel, .data, .data, .data, .pinned], laidTests := true, laidLooks := .later }
def ScalarBackUptoCardSaid : Prop := Claim7.holds Tryz.pinned (.plain (OpenSpec.upto scalarBackSpec)) scalarBackUptoCard

/-- THE SECOND FORM's CARD OF 'tacticianlaw03.ScalarTruth'. -/
def scalarTruthUptoCard : Claim7 := { stood := { row := scalarTruthUptoRow, standIns := [], harness := (true, "a31286f98940b8a6364646d35a0be43d497ef2162ba46f76475af205e8ea9ecc"), looks := true }, kinds := [], alts := [], laidByText := true, laidKinds := [.data, .data, .data, .data, .sentinel, .sentinel, .data, .data, .data, .pinned], laidTests := true, laidLooks := .later }
def ScalarTruthUptoCardSaid : Prop := Claim7.holds Tryz.pinned (.plain (OpenSpec.upto scalarTruthSpec)) scalarTruthUptoCard

/-- THE SECOND FORM's CARD OF 'tacticianlaw03.ScalarComputes'. -/
def scalarComputesUptoCard : Claim7 := { stood := { row := scalarComputesUptoRow, standIns := [], harness := (true, "a31286f98940b8a6364646d35a0be43d497ef2162ba46f76475af205e8ea9ecc"), looks := true }, kinds := [], alts := [], laidByText := true, laidKinds := [.data, .data, .data, .data, .sentinel, .sentinel, .data, .data, .data, .pinned], laidTests := true, laidLooks := .later }
def ScalarComputesUptoCardSaid : Prop := Claim7.holds Tryz.pinned (.plain (OpenSpec.upto scalarComputesSpec)) scalarComputesUptoCard

/-- THE SECOND FORM's CARD OF 'tacticianlaw03.ScalarFits'. -/
def scalarFitsUptoCard : Claim7 := { stood := { row := scalarFitsUptoRow, standIns := [], harness := (true, "a31286f98940b8a6364646d35a0be43d497ef2162ba46f76475af205e8ea9ecc"), looks := true }, kinds := [], alts := [], laidByText := true, laidKinds := [.data, .data, .data, .data, .sentinel, .sentinel, .data, .data, .data, .pinned], laidTests := true, laidLooks := .later }
def ScalarFitsUptoCardSaid : Prop := Claim7.holds Tryz.pinned (.plain (OpenSpec.upto scalarFitsSpec)) scalarFitsUptoCard

/-- THE SECOND FORM's CARD OF 'tacticianlaw03.ScalarPlaces'. -/
def scalarPlacesUptoCard : Claim7 := { stood := { row := scalarPlacesUptoRow, standIns := [], harness := (true, "a31286f98940b8a6364646d35a0be43d497ef2162ba46f76475af205e8ea9ecc"), looks := true }, kinds := [], alts := [], laidByText := true, laidKinds := [.data, .data, .data, .data, .sentinel, .sentinel, .data, .data, .data, .pinned], laidTests := true, laidLooks := .later }
def ScalarPlacesUptoCardSaid : Prop := Claim7.holds Tryz.pinned (.plain (OpenSpec.upto scalarPlacesSpec)) scalarPlacesUptoCard

/-- THE SECOND FORM's CARD OF 'tacticianlaw03.ScalarOwn'. -/
def scalarOwnUptoCard : Claim7 := { stood := { row := scalarOwnUptoRow, standIns := [], harness := (true, "a31286f98940b8a6364646d35a0be43d497ef2162ba46f76475af205e8ea9ecc"), looks := true }, kinds := [], alts := [], laidByText := true, laidKinds := [.data, .data, .data, .data, .sentinel, .sentinel, .data, .data, .data, .pinned], laidTests := true, laidLooks := .later }
def ScalarOwnUptoCardSaid : Prop := Claim7.holds Tryz.pinned (.plain (OpenSpec.upto scalarOwnSpec)) scalarOwnUptoCard
end Rows
end Go.Proofs.YtdiehgfldndgbaaGreatDoor
