/-
  DERIVED. GIVEN WITH THE SEED: THE CARDS: each row of YtjkmfonngbendaaGreatDoorRows.lean that lists a variable, with what it lists TIED to the program's text (the seventh form; the later family's looks); each row that meets fmt, with fmt's text TOLD by the authors' own Lean function (tested against real Go, not proved from fmt's source: count such statements apart). THE CARD IS WHAT COUNTS. Prove the row's statement (the work); the ties are given (YtjkmfonngbendaaGreatDoorTie.lean); close each card by the builder's one call (the guide's Derived/Test/ToyasCard.lean, 'card_holds'). Laid BY PROGRAM, IN A SANDBOX (cutbox-door.mjs). By AI agents, Wed Nov 11 2026. No macro, syntax, notation, axiom, sorry.
-/
import Derived.Test.YtjkmfonngbendaaGreatDoorRows
import GoSem.ClaimSeven
namespace Go.Proofs.YtjkmfonngbendaaGreatDoor
namespace Rows

/-- THE TIED CARD OF 'cambiumtop.TopSized'. -/
def topSizedCard : Claim7 := { stood := { row := topSizedRow, standIns := [], harness := (true, "e91a0d9c40e781adc241789b71f055c4978b0d4d1d1d62bfdd7cbf70625d14d6"), looks := false }, kinds := [], alts := [], laidByText := true, laidKinds := [.data, .data, .data, .pinned], laidTests := true, laidLooks := .later }
def TopSizedCardSaid : Prop := Claim7.holds Tryz.pinned (.plain (OpenSpec.ofChange topSizedSpec)) topSizedCard

/-- THE TIED CARD OF 'cambiumlaw18.StreamDoes'. -/
def streamDoesCard : Claim7 := { stood := { row := streamDoesRow, standIns := [], harness := (true, "e91a0d9c40e781adc241789b71f055c4978b0d4d1d1d62bfdd7cbf70625d14d6"), looks := false }, kinds := [], alts := [], laidByText := true, laidKinds := [.data, .data], laidTests := true, laidLooks := .later }
def StreamDoesCardSaid : Prop := Claim7.holds Tryz.pinned (.plain (OpenSpec.ofChange streamDoesSpec)) streamDoesCard

/-- THE TIED CARD OF 'cambiumlaw18.StreamBack'. -/
def streamBackCard : Claim7 := { stood := { row := streamBackRow, standIns := [], harness := (true, "e91a0d9c40e781adc241789b71f055c4978b0d4d1d1d62bfdd7cbf70625d14d6"), looks := false }, kinds := [], alts := [], laidByText := true, laidKinds := [.data, .data], laidTests := true, laidLooks := .later }
def StreamBackCardSaid : Prop := Claim7.holds Tryz.pinned (.plain (OpenSpec.ofChange streamBackSpec)) streamBackCard

/-- THE TIED CARD OF 'cambiumlaw18.StreamTurned'. -/
def streamTurnedCard : Claim7 := { stood := { row := streamTurnedRow, standIns := [], harness := (true, "e91a0d9c40e781adc241789b71f055c4978b0d4d1d1d62bfdd7cbf70625d14d6"), looks := false }, kinds := [], alts := [], laidByText := true, laidKinds := [.data, .data], laidTests := true, laidLooks := .later }
def StreamTurnedCardSaid : Prop := Claim7.holds Tryz.pinned (.plain (OpenSpec.ofChange streamTurnedSpec)) streamTurnedCard

/-- THE TIED CARD OF 'cambiumlaw18.StreamRight'. -/
def streamRightCard : Claim7 := { stood := { row := streamRightRow, standIns := [], harness := (true, "e91a0d9c40e781adc241789b71f055c4978b0d4d1d1d62bfdd7cbf70625d14d6"), looks := false }, kinds := [], alts := [], laidByText := true, laidKinds := [.data, .data], laidTests := true, laidLooks := .later }
def StreamRightCardSaid : Prop := Claim7.holds Tryz.pinned (.plain (OpenSpec.ofChange streamRightSpec)) streamRightCard

/-- THE TIED CARD OF 'cambiumlaw18.StreamOther'. -/
def streamOtherCard : Claim7 := { stood := { row := streamOtherRow, standIns := [], harness := (true, "e91a0d9c40e781adc241789b71f055c4978b0d4d1d1d62bfdd7cbf70625d14d6"), looks := false }, kinds := [], alts := [], laidByText := true, laidKinds := [.data, .data], laidTests := true, laidLooks := .later }
def StreamOtherCardSaid : Prop := Claim7.holds Tryz.pinned (.plain (OpenSpec.ofChange streamOtherSpec)) streamOtherCard

/-- THE TIED CARD OF 'cambiumlaw18.StreamChains'. -/
def streamChainsCard : Claim7 := { stood := { row := streamChainsRow, standIns := [], harness := (true, "e91a0d9c40e781adc241789b71f055c4978b0d4d1d1d62bfdd7cbf70625d14d6"), looks := false }, kinds := [], alts := [], laidByText := true, laidKinds := [.data, .data], laidTests := true, laidLooks := .later }
def StreamChainsCardSaid : Prop := Claim7.holds Tryz.pinned (.plain (OpenSpec.ofChange streamChainsSpec)) streamChainsCard

/-- THE TIED CARD OF 'cambiumlaw18.StreamCut'. -/
def streamCutCard : Claim7 := { stood := { row := streamCutRow, standIns := [], harness := (true, "e91a0d9c40e781adc241789b71f055c4978b0d4d1d1d62bfdd7cbf70625d14d6"), looks := false }, kinds := [], alts := [], laidByText := true, laidKinds := [.data, .data], laidTests := true, laidLooks := .later }
def StreamCutCardSaid : Prop := Claim7.holds Tryz.pinned (.plain (OpenSpec.ofChange streamCutSpec)) streamCutCard

/-- THE SECOND FORM's CARD OF 'cambiumtop.TopSized'. -/
def topSizedUptoCard : Claim7 := { stood := { row := topSizedUptoRow, standIns := [], harness := (true, "e91a0d9c40e781adc241789b71f055c4978b0d4d1d1d62bfdd7cbf70625d14d6"), looks := false }, kinds := [], alts := [], laidByText := true, laidKinds := [.data, .data, .data, .pinned], laidTests := true, laidLooks := .later }
def TopSizedUptoCardSaid : Prop := Claim7.holds Tryz.pinned (.plain (OpenSpec.upto topSizedSpec)) topSizedUptoCard

/-- THE SECOND FORM's CARD OF 'cambiumlaw18.StreamDoes'. -/
def streamDoesUptoCard : Claim7 := { stood := { row := streamDoesUptoRow, standIns := [], harness := (true, "e91a0d9c40e781adc241789b71f055c4978b0d4d1d1d62bfdd7cbf70625d14d6"), looks := false }, kinds := [], alts := [], laidByText := true, laidKinds := [.data, .data], laidTests := true, laidLooks := .later }
def StreamDoesUptoCardSaid : Prop := Claim7.holds Tryz.pinned (.plain (OpenSpec.upto streamDoesSpec)) streamDoesUptoCard

/-- THE SECOND FORM's CARD OF 'cambiumlaw18.StreamBack'. -/
def streamBackUptoCard : Claim7 := { stood := { row := streamBackUptoRow, standIns := [], harness := (true, "e91a0d9c40e781adc241789b71f055c4978b0d4d1d1d62bfdd7cbf70625d14d6"), looks := false }, kinds := [], alts := [], laidByText := true, laidKinds := [.data, .data], laidTests := true, laidLooks := .later }
def StreamBackUptoCardSaid : Prop := Claim7.holds Tryz.pinned (.plain (OpenSpec.upto streamBackSpec)) streamBackUptoCard

/-- THE SECOND FORM's CARD OF 'cambiumlaw18.StreamTurned'. -/
def streamTurnedUptoCard : Claim7 := { stood := { row := streamTurnedUptoRow, standIns := [], harness := (true, "e91a0d9c40e781adc241789b71f055c4978b0d4d1d1d62bfdd7cbf70625d14d6"), looks := false }, kinds := [], alts := [], laidByText := true, laidKinds := [.data, .data], laidTests := true, laidLooks := .later }
def StreamTurnedUptoCardSaid : Prop := Claim7.holds Tryz.pinned (.plain (OpenSpec.upto streamTurnedSpec)) streamTurnedUptoCard

/-- THE SECOND FORM's CARD OF 'cambiumlaw18.StreamRight'. -/
def streamRightUptoCard : Claim7 := { stood := { row := streamRightUptoRow, standIns := [], harness := (true, "e91a0d9c40e781adc241789b71f055c4978b0d4d1d1d62bfdd7cbf70625d14d6"), looks := false }, kinds := [], alts := [], laidByText := true, laidKinds := [.data, .data], laidTests := true, laidLooks := .later }
def StreamRightUptoCardSaid : Prop := Claim7.holds Tryz.pinned (.plain (OpenSpec.upto streamRightSpec)) streamRightUptoCard

/-- THE SECOND FORM's CARD OF 'cambiumlaw18.StreamOther'. -/
def streamOtherUptoCard : Claim7 := { stood := { row := streamOtherUptoRow, standIns := [], harness := (true, "e91a0d9c40e781adc241789b71f055c4978b0d4d1d1d62bfdd7cbf70625d14d6"), looks := false }, kinds := [], alts := [], laidByText := true, laidKinds := [.data, .data], laidTests := true, laidLooks := .later }
def StreamOtherUptoCardSaid : Prop := Claim7.holds Tryz.pinned (.plain (OpenSpec.upto streamOtherSpec)) streamOtherUptoCard

/-- THE SECOND FORM's CARD OF 'cambiumlaw18.StreamChains'. -/
def streamChainsUptoCard : Claim7 := { stood := { row := streamChainsUptoRow, standIns := [], harness := (true, "e91a0d9c40e781adc241789b71f055c4978b0d4d1d1d62bfdd7cbf70625d14d6"), looks := false }, kinds := [], alts := [], laidByText := true, laidKinds := [.data, .data], laidTests := true, laidLooks := .later }
def StreamChainsUptoCardSaid : Prop := Claim7.holds Tryz.pinned (.plain (OpenSpec.upto streamChainsSpec)) streamChainsUptoCard

/-- THE SECOND FORM's CARD OF 'cambiumlaw18.StreamCut'. -/
def streamCutUptoCard : Claim7 := { stood := { row := streamCutUptoRow, standIns := [], harness := (true, "e91a0d9c40e781adc241789b71f055c4978b0d4d1d1d62bfdd7cbf70625d14d6"), looks := false }, kinds := [], alts := [], laidByText := true, laidKinds := [.data, .data], laidTests := true, laidLooks := .later }
def StreamCutUptoCardSaid : Prop := Claim7.holds Tryz.pinned (.plain (OpenSpec.upto streamCutSpec)) streamCutUptoCard
end Rows
end Go.Proofs.YtjkmfonngbendaaGreatDoor
