/-
  DERIVED. GIVEN WITH THE SEED: THE CARDS: each row of YtopepebcnaikiaaGreatDoorRows.lean that lists a variable, with what it lists TIED to the program's text (the seventh form; the later family's looks); each row that meets fmt, with fmt's text TOLD by the authors' own Lean function (tested against real Go, not proved from fmt's source: count such statements apart). THE CARD IS WHAT COUNTS. Prove the row's statement (the work); the ties are given (YtopepebcnaikiaaGreatDoorTie.lean); close each card by the builder's one call (the guide's Derived/Test/ToyasCard.lean, 'card_holds'). Laid BY PROGRAM, IN A SANDBOX (cutbox-door.mjs). By AI agents, Wed Nov 11 2026. No macro, syntax, notation, axiom, sorry.
-/
import Derived.Test.YtopepebcnaikiaaGreatDoorRows
import GoSem.ClaimSeven
namespace Go.Proofs.YtopepebcnaikiaaGreatDoor
namespace Rows

/-- THE TIED CARD OF 'cambiumlaw15.FilesRight'. -/
def filesRightCard : Claim7 := { stood := { row := filesRightRow, standIns := [], harness := (true, "0bbcc047be3225d040517a4d470260610c29ae71d835d48e20d33849c2f695f3"), looks := false }, kinds := [], alts := [], laidByText := true, laidKinds := [.data, .pinned], laidTests := true, laidLooks := .later }
def FilesRightCardSaid : Prop := Claim7.holds Tryz.pinned (.plain (OpenSpec.ofChange filesRightSpec)) filesRightCard

/-- THE TIED CARD OF 'cambiumlaw15.FilesBack'. -/
def filesBackCard : Claim7 := { stood := { row := filesBackRow, standIns := [], harness := (true, "0bbcc047be3225d040517a4d470260610c29ae71d835d48e20d33849c2f695f3"), looks := false }, kinds := [], alts := [], laidByText := true, laidKinds := [.data, .pinned], laidTests := true, laidLooks := .later }
def FilesBackCardSaid : Prop := Claim7.holds Tryz.pinned (.plain (OpenSpec.ofChange filesBackSpec)) filesBackCard

/-- THE TIED CARD OF 'cambiumlaw15.FilesNamed'. -/
def filesNamedCard : Claim7 := { stood := { row := filesNamedRow, standIns := [], harness := (true, "0bbcc047be3225d040517a4d470260610c29ae71d835d48e20d33849c2f695f3"), looks := false }, kinds := [], alts := [], laidByText := true, laidKinds := [.data, .pinned], laidTests := true, laidLooks := .later }
def FilesNamedCardSaid : Prop := Claim7.holds Tryz.pinned (.plain (OpenSpec.ofChange filesNamedSpec)) filesNamedCard

/-- THE TIED CARD OF 'cambiumlaw15.FilesMoved'. -/
def filesMovedCard : Claim7 := { stood := { row := filesMovedRow, standIns := [], harness := (true, "0bbcc047be3225d040517a4d470260610c29ae71d835d48e20d33849c2f695f3"), looks := false }, kinds := [], alts := [], laidByText := true, laidKinds := [.data, .pinned], laidTests := true, laidLooks := .later }
def FilesMovedCardSaid : Prop := Claim7.holds Tryz.pinned (.plain (OpenSpec.ofChange filesMovedSpec)) filesMovedCard

/-- THE TIED CARD OF 'cambiumlaw15.FilesHard'. -/
def filesHardCard : Claim7 := { stood := { row := filesHardRow, standIns := [], harness := (true, "0bbcc047be3225d040517a4d470260610c29ae71d835d48e20d33849c2f695f3"), looks := false }, kinds := [], alts := [], laidByText := true, laidKinds := [.data, .pinned], laidTests := true, laidLooks := .later }
def FilesHardCardSaid : Prop := Claim7.holds Tryz.pinned (.plain (OpenSpec.ofChange filesHardSpec)) filesHardCard

/-- THE TIED CARD OF 'cambiumlaw15.FilesAttrs'. -/
def filesAttrsCard : Claim7 := { stood := { row := filesAttrsRow, standIns := [], harness := (true, "0bbcc047be3225d040517a4d470260610c29ae71d835d48e20d33849c2f695f3"), looks := false }, kinds := [], alts := [], laidByText := true, laidKinds := [.data, .pinned], laidTests := true, laidLooks := .later }
def FilesAttrsCardSaid : Prop := Claim7.holds Tryz.pinned (.plain (OpenSpec.ofChange filesAttrsSpec)) filesAttrsCard

/-- THE TIED CARD OF 'cambiumlaw15.FilesModes'. -/
def filesModesCard : Claim7 := { stood := { row := filesModesRow, standIns := [], harness := (true, "0bbcc047be3225d040517a4d470260610c29ae71d835d48e20d33849c2f695f3"), looks := false }, kinds := [], alts := [], laidByText := true, laidKinds := [.data, .pinned], laidTests := true, laidLooks := .later }
def FilesModesCardSaid : Prop := Claim7.holds Tryz.pinned (.plain (OpenSpec.ofChange filesModesSpec)) filesModesCard

/-- THE TIED CARD OF 'cambiumlaw15.FilesEmpty'. -/
def filesEmptyCard : Claim7 := { stood := { row := filesEmptyRow, standIns := [], harness := (true, "0bbcc047be3225d040517a4d470260610c29ae71d835d48e20d33849c2f695f3"), looks := false }, kinds := [], alts := [], laidByText := true, laidKinds := [.data, .pinned], laidTests := true, laidLooks := .later }
def FilesEmptyCardSaid : Prop := Claim7.holds Tryz.pinned (.plain (OpenSpec.ofChange filesEmptySpec)) filesEmptyCard

/-- THE SECOND FORM's CARD OF 'cambiumlaw15.FilesRight'. -/
def filesRightUptoCard : Claim7 := { stood := { row := filesRightUptoRow, standIns := [], harness := (true, "0bbcc047be3225d040517a4d470260610c29ae71d835d48e20d33849c2f695f3"), looks := false }, kinds := [], alts := [], laidByText := true, laidKinds := [.data, .pinned], laidTests := true, laidLooks := .later }
def FilesRightUptoCardSaid : Prop := Claim7.holds Tryz.pinned (.plain (OpenSpec.upto filesRightSpec)) filesRightUptoCard

/-- THE SECOND FORM's CARD OF 'cambiumlaw15.FilesBack'. -/
def filesBackUptoCard : Claim7 := { stood := { row := filesBackUptoRow, standIns := [], harness := (true, "0bbcc047be3225d040517a4d470260610c29ae71d835d48e20d33849c2f695f3"), looks := false }, kinds := [], alts := [], laidByText := true, laidKinds := [.data, .pinned], laidTests := true, laidLooks := .later }
def FilesBackUptoCardSaid : Prop := Claim7.holds Tryz.pinned (.plain (OpenSpec.upto filesBackSpec)) filesBackUptoCard

/-- THE SECOND FORM's CARD OF 'cambiumlaw15.FilesNamed'. -/
def filesNamedUptoCard : Claim7 := { stood := { row := filesNamedUptoRow, standIns := [], harness := (true, "0bbcc047be3225d040517a4d470260610c29ae71d835d48e20d33849c2f695f3"), looks := false }, kinds := [], alts := [], laidByText := true, laidKinds := [.data, .pinned], laidTests := true, laidLooks := .later }
def FilesNamedUptoCardSaid : Prop := Claim7.holds Tryz.pinned (.plain (OpenSpec.upto filesNamedSpec)) filesNamedUptoCard

/-- THE SECOND FORM's CARD OF 'cambiumlaw15.FilesMoved'. -/
def filesMovedUptoCard : Claim7 := { stood := { row := filesMovedUptoRow, standIns := [], harness := (true, "0bbcc047be3225d040517a4d470260610c29ae71d835d48e20d33849c2f695f3"), looks := false }, kinds := [], alts := [], laidByText := true, laidKinds := [.data, .pinned], laidTests := true, laidLooks := .later }
def FilesMovedUptoCardSaid : Prop := Claim7.holds Tryz.pinned (.plain (OpenSpec.upto filesMovedSpec)) filesMovedUptoCard

/-- THE SECOND FORM's CARD OF 'cambiumlaw15.FilesHard'. -/
def filesHardUptoCard : Claim7 := { stood := { row := filesHardUptoRow, standIns := [], harness := (true, "0bbcc047be3225d040517a4d470260610c29ae71d835d48e20d33849c2f695f3"), looks := false }, kinds := [], alts := [], laidByText := true, laidKinds := [.data, .pinned], laidTests := true, laidLooks := .later }
def FilesHardUptoCardSaid : Prop := Claim7.holds Tryz.pinned (.plain (OpenSpec.upto filesHardSpec)) filesHardUptoCard

/-- THE SECOND FORM's CARD OF 'cambiumlaw15.FilesAttrs'. -/
def filesAttrsUptoCard : Claim7 := { stood := { row := filesAttrsUptoRow, standIns := [], harness := (true, "0bbcc047be3225d040517a4d470260610c29ae71d835d48e20d33849c2f695f3"), looks := false }, kinds := [], alts := [], laidByText := true, laidKinds := [.data, .pinned], laidTests := true, laidLooks := .later }
def FilesAttrsUptoCardSaid : Prop := Claim7.holds Tryz.pinned (.plain (OpenSpec.upto filesAttrsSpec)) filesAttrsUptoCard

/-- THE SECOND FORM's CARD OF 'cambiumlaw15.FilesModes'. -/
def filesModesUptoCard : Claim7 := { stood := { row := filesModesUptoRow, standIns := [], harness := (true, "0bbcc047be3225d040517a4d470260610c29ae71d835d48e20d33849c2f695f3"), looks := false }, kinds := [], alts := [], laidByText := true, laidKinds := [.data, .pinned], laidTests := true, laidLooks := .later }
def FilesModesUptoCardSaid : Prop := Claim7.holds Tryz.pinned (.plain (OpenSpec.upto filesModesSpec)) filesModesUptoCard

/-- THE SECOND FORM's CARD OF 'cambiumlaw15.FilesEmpty'. -/
def filesEmptyUptoCard : Claim7 := { stood := { row := filesEmptyUptoRow, standIns := [], harness := (true, "0bbcc047be3225d040517a4d470260610c29ae71d835d48e20d33849c2f695f3"), looks := false }, kinds := [], alts := [], laidByText := true, laidKinds := [.data, .pinned], laidTests := true, laidLooks := .later }
def FilesEmptyUptoCardSaid : Prop := Claim7.holds Tryz.pinned (.plain (OpenSpec.upto filesEmptySpec)) filesEmptyUptoCard
end Rows
end Go.Proofs.YtopepebcnaikiaaGreatDoor
