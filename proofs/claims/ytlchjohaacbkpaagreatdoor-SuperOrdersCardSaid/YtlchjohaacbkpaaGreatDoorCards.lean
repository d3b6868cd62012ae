/-
  DERIVED. GIVEN WITH THE SEED: THE CARDS: each row of YtlchjohaacbkpaaGreatDoorRows.lean that lists a variable, with what it lists TIED to the program's text (the seventh form; the later family's looks); each row that meets fmt, with fmt's text TOLD by the authors' own Lean function (tested against real Go, not proved from fmt's source: count such statements apart). THE CARD IS WHAT COUNTS. Prove the row's statement (the work); the ties are given (YtlchjohaacbkpaaGreatDoorTie.lean); close each card by the builder's one call (the guide's Derived/Test/ToyasCard.lean, 'card_holds'). Laid BY PROGRAM, IN A SANDBOX (cutbox-door.mjs). By AI agents, Wed Nov 11 2026. No macro, syntax, notation, axiom, sorry.
-/
import Derived.Test.YtlchjohaacbkpaaGreatDoorRows
import GoSem.ClaimSeven
namespace Go.Proofs.YtlchjohaacbkpaaGreatDoor
namespace Rows

/-- THE TIED CARD OF 'cambiumlaw05.NodeCodes'. -/
def nodeCodesCard : Claim7 := { stood := { row := nodeCodesRow, standIns := [], harness := (true, "04c305def2a20d52904fa7b971d46ea6283558a44b5464455946b22d29136eff"), looks := false }, kinds := [], alts := [], laidByText := true, laidKinds := [.data, .pinned], laidTests := true, laidLooks := .later }
def NodeCodesCardSaid : Prop := Claim7.holds Tryz.pinned (.plain (OpenSpec.ofChange nodeCodesSpec)) nodeCodesCard

/-- THE TIED CARD OF 'cambiumlaw09.SuperCodes'. -/
def superCodesCard : Claim7 := { stood := { row := superCodesRow, standIns := [], harness := (true, "04c305def2a20d52904fa7b971d46ea6283558a44b5464455946b22d29136eff"), looks := false }, kinds := [], alts := [], laidByText := true, laidKinds := [.data, .pinned], laidTests := true, laidLooks := .later }
def SuperCodesCardSaid : Prop := Claim7.holds Tryz.pinned (.plain (OpenSpec.ofChange superCodesSpec)) superCodesCard

/-- THE TIED CARD OF 'cambiumlaw09.SuperOrders'. -/
def superOrdersCard : Claim7 := { stood := { row := superOrdersRow, standIns := [], harness := (true, "04c305def2a20d52904fa7b971d46ea6283558a44b5464455946b22d29136eff"), looks := false }, kinds := [], alts := [], laidByText := true, laidKinds := [.data, .pinned], laidTests := true, laidLooks := .later }
def SuperOrdersCardSaid : Prop := Claim7.holds Tryz.pinned (.plain (OpenSpec.ofChange superOrdersSpec)) superOrdersCard

/-- THE TIED CARD OF 'cambiumlaw09.SuperBack'. -/
def superBackCard : Claim7 := { stood := { row := superBackRow, standIns := [], harness := (true, "04c305def2a20d52904fa7b971d46ea6283558a44b5464455946b22d29136eff"), looks := false }, kinds := [], alts := [], laidByText := true, laidKinds := [.data, .pinned], laidTests := true, laidLooks := .later }
def SuperBackCardSaid : Prop := Claim7.holds Tryz.pinned (.plain (OpenSpec.ofChange superBackSpec)) superBackCard

/-- THE TIED CARD OF 'cambiumlaw09.SuperNewest'. -/
def superNewestCard : Claim7 := { stood := { row := superNewestRow, standIns := [], harness := (true, "04c305def2a20d52904fa7b971d46ea6283558a44b5464455946b22d29136eff"), looks := false }, kinds := [], alts := [], laidByText := true, laidKinds := [.data, .pinned], laidTests := true, laidLooks := .later }
def SuperNewestCardSaid : Prop := Claim7.holds Tryz.pinned (.plain (OpenSpec.ofChange superNewestSpec)) superNewestCard

/-- THE TIED CARD OF 'cambiumlaw09.SuperApart'. -/
def superApartCard : Claim7 := { stood := { row := superApartRow, standIns := [], harness := (true, "04c305def2a20d52904fa7b971d46ea6283558a44b5464455946b22d29136eff"), looks := false }, kinds := [], alts := [], laidByText := true, laidKinds := [.data, .pinned], laidTests := true, laidLooks := .later }
def SuperApartCardSaid : Prop := Claim7.holds Tryz.pinned (.plain (OpenSpec.ofChange superApartSpec)) superApartCard

/-- THE TIED CARD OF 'cambiumlaw13.DataBack'. -/
def dataBackCard : Claim7 := { stood := { row := dataBackRow, standIns := [], harness := (true, "04c305def2a20d52904fa7b971d46ea6283558a44b5464455946b22d29136eff"), looks := false }, kinds := [], alts := [], laidByText := true, laidKinds := [.data, .pinned], laidTests := true, laidLooks := .later }
def DataBackCardSaid : Prop := Claim7.holds Tryz.pinned (.plain (OpenSpec.ofChange dataBackSpec)) dataBackCard

/-- THE TIED CARD OF 'cambiumlaw13.DataCut'. -/
def dataCutCard : Claim7 := { stood := { row := dataCutRow, standIns := [], harness := (true, "04c305def2a20d52904fa7b971d46ea6283558a44b5464455946b22d29136eff"), looks := false }, kinds := [], alts := [], laidByText := true, laidKinds := [.data, .pinned], laidTests := true, laidLooks := .later }
def DataCutCardSaid : Prop := Claim7.holds Tryz.pinned (.plain (OpenSpec.ofChange dataCutSpec)) dataCutCard

/-- THE TIED CARD OF 'cambiumlaw13.DataParts'. -/
def dataPartsCard : Claim7 := { stood := { row := dataPartsRow, standIns := [], harness := (true, "04c305def2a20d52904fa7b971d46ea6283558a44b5464455946b22d29136eff"), looks := false }, kinds := [], alts := [], laidByText := true, laidKinds := [.data, .pinned], laidTests := true, laidLooks := .later }
def DataPartsCardSaid : Prop := Claim7.holds Tryz.pinned (.plain (OpenSpec.ofChange dataPartsSpec)) dataPartsCard

/-- THE TIED CARD OF 'cambiumlaw13.DataApart'. -/
def dataApartCard : Claim7 := { stood := { row := dataApartRow, standIns := [], harness := (true, "04c305def2a20d52904fa7b971d46ea6283558a44b5464455946b22d29136eff"), looks := false }, kinds := [], alts := [], laidByText := true, laidKinds := [.data, .pinned], laidTests := true, laidLooks := .later }
def DataApartCardSaid : Prop := Claim7.holds Tryz.pinned (.plain (OpenSpec.ofChange dataApartSpec)) dataApartCard

/-- THE TIED CARD OF 'cambiumlaw13.DataNothing'. -/
def dataNothingCard : Claim7 := { stood := { row := dataNothingRow, standIns := [], harness := (true, "04c305def2a20d52904fa7b971d46ea6283558a44b5464455946b22d29136eff"), looks := false }, kinds := [], alts := [], laidByText := true, laidKinds := [.data, .pinned], laidTests := true, laidLooks := .later }
def DataNothingCardSaid : Prop := Claim7.holds Tryz.pinned (.plain (OpenSpec.ofChange dataNothingSpec)) dataNothingCard

/-- THE SECOND FORM's CARD OF 'cambiumlaw05.NodeCodes'. -/
def nodeCodesUptoCard : Claim7 := { stood := { row := nodeCodesUptoRow, standIns := [], harness := (true, "04c305def2a20d52904fa7b971d46ea6283558a44b5464455946b22d29136eff"), looks := false }, kinds := [], alts := [], laidByText := true, laidKinds := [.data, .pinned], laidTests := true, laidLooks := .later }
def NodeCodesUptoCardSaid : Prop := Claim7.holds Tryz.pinned (.plain (OpenSpec.upto nodeCodesSpec)) nodeCodesUptoCard

/-- THE SECOND FORM's CARD OF 'cambiumlaw09.SuperCodes'. -/
def superCodesUptoCard : Claim7 := { stood := { row := superCodesUptoRow, standIns := [], harness := (true, "04c305def2a20d52904fa7b971d46ea6283558a44b5464455946b22d29136eff"), looks := false }, kinds := [], alts := [], laidByText := true, laidKinds := [.data, .pinned], laidTests := true, laidLooks := .later }
def SuperCodesUptoCardSaid : Prop := Claim7.holds Tryz.pinned (.plain (OpenSpec.upto superCodesSpec)) superCodesUptoCard

/-- THE SECOND FORM's CARD OF 'cambiumlaw09.SuperOrders'. -/
def superOrdersUptoCard : Claim7 := { stood := { row := superOrdersUptoRow, standIns := [], harness := (true, "04c305def2a20d52904fa7b971d46ea6283558a44b5464455946b22d29136eff"), looks := false }, kinds := [], alts := [], laidByText := true, laidKinds := [.data, .pinned], laidTests := true, laidLooks := .later }
def SuperOrdersUptoCardSaid : Prop := Claim7.holds Tryz.pinned (.plain (OpenSpec.upto superOrdersSpec)) superOrdersUptoCard

/-- THE SECOND FORM's CARD OF 'cambiumlaw09.SuperBack'. -/
def superBackUptoCard : Claim7 := { stood := { row := superBackUptoRow, standIns := [], harness := (true, "04c305def2a20d52904fa7b971d46ea6283558a44b5464455946b22d29136eff"), looks := false }, kinds := [], alts := [], laidByText := true, laidKinds := [.data, .pinned], laidTests := true, laidLooks := .later }
def SuperBackUptoCardSaid : Prop := Claim7.holds Tryz.pinned (.plain (OpenSpec.upto superBackSpec)) superBackUptoCard

/-- THE SECOND FORM's CARD OF 'cambiumlaw09.SuperNewest'. -/
def superNewestUptoCard : Claim7 := { stood := { row := superNewestUptoRow, standIns := [], harness := (true, "04c305def2a20d52904fa7b971d46ea6283558a44b5464455946b22d29136eff"), looks := false }, kinds := [], alts := [], laidByText := true, laidKinds := [.data, .pinned], laidTests := true, laidLooks := .later }
def SuperNewestUptoCardSaid : Prop := Claim7.holds Tryz.pinned (.plain (OpenSpec.upto superNewestSpec)) superNewestUptoCard

/-- THE SECOND FORM's CARD OF 'cambiumlaw09.SuperApart'. -/
def superApartUptoCard : Claim7 := { stood := { row := superApartUptoRow, standIns := [], harness := (true, "04c305def2a20d52904fa7b971d46ea6283558a44b5464455946b22d29136eff"), looks := false }, kinds := [], alts := [], laidByText := true, laidKinds := [.data, .pinned], laidTests := true, laidLooks := .later }
def SuperApartUptoCardSaid : Prop := Claim7.holds Tryz.pinned (.plain (OpenSpec.upto superApartSpec)) superApartUptoCard

/-- THE SECOND FORM's CARD OF 'cambiumlaw13.DataBack'. -/
def dataBackUptoCard : Claim7 := { stood := { row := dataBackUptoRow, standIns := [], harness := (true, "04c305def2a20d52904fa7b971d46ea6283558a44b5464455946b22d29136eff"), looks := false }, kinds := [], alts := [], laidByText := true, laidKinds := [.data, .pinned], laidTests := true, laidLooks := .later }
def DataBackUptoCardSaid : Prop := Claim7.holds Tryz.pinned (.plain (OpenSpec.upto dataBackSpec)) dataBackUptoCard

/-- THE SECOND FORM's CARD OF 'cambiumlaw13.DataCut'. -/
def dataCutUptoCard : Claim7 := { stood := { row := dataCutUptoRow, standIns := [], harness := (true, "04c305def2a20d52904fa7b971d46ea6283558a44b5464455946b22d29136eff"), looks := false }, kinds := [], alts := [], laidByText := true, laidKinds := [.data, .pinned], laidTests := true, laidLooks := .later }
def DataCutUptoCardSaid : Prop := Claim7.holds Tryz.pinned (.plain (OpenSpec.upto dataCutSpec)) dataCutUptoCard

/-- THE SECOND FORM's CARD OF 'cambiumlaw13.DataParts'. -/
def dataPartsUptoCard : Claim7 := { stood := { row := dataPartsUptoRow, standIns := [], harness := (true, "04c305def2a20d52904fa7b971d46ea6283558a44b5464455946b22d29136eff"), looks := false }, kinds := [], alts := [], laidByText := true, laidKinds := [.data, .pinned], laidTests := true, laidLooks := .later }
def DataPartsUptoCardSaid : Prop := Claim7.holds Tryz.pinned (.plain (OpenSpec.upto dataPartsSpec)) dataPartsUptoCard

/-- THE SECOND FORM's CARD OF 'cambiumlaw13.DataApart'. -/
def dataApartUptoCard : Claim7 := { stood := { row := dataApartUptoRow, standIns := [], harness := (true, "04c305def2a20d52904fa7b971d46ea6283558a44b5464455946b22d29136eff"), looks := false }, kinds := [], alts := [], laidByText := true, laidKinds := [.data, .pinned], laidTests := true, laidLooks := .later }
def DataApartUptoCardSaid : Prop := Claim7.holds Tryz.pinned (.plain (OpenSpec.upto dataApartSpec)) dataApartUptoCard

/-- THE SECOND FORM's CARD OF 'cambiumlaw13.DataNothing'. -/
def dataNothingUptoCard : Claim7 := { stood := { row := dataNothingUptoRow, standIns := [], harness := (true, "04c305def2a20d52904fa7b971d46ea6283558a44b5464455946b22d29136eff"), looks := false }, kinds := [], alts := [], laidByText := true, laidKinds := [.data, .pinned], laidTests := true, laidLooks := .later }
def DataNothingUptoCardSaid : Prop := Claim7.holds Tryz.pinned (.plain (OpenSpec.upto dataNothingSpec)) dataNothingUptoCard
end Rows
end Go.Proofs.YtlchjohaacbkpaaGreatDoor
