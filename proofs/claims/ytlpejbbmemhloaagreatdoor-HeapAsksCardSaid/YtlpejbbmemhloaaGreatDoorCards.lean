/-
  DERIVED. GIVEN WITH THE SEED: THE CARDS: each row of YtlpejbbmemhloaaGreatDoorRows.lean that lists a variable, with what it lists TIED to the program's text (the seventh form; the later family's looks); each row that meets fmt, with fmt's text TOLD by the authors' own Lean function (tested against real Go, not proved from fmt's source: count such statements apart). THE CARD IS WHAT COUNTS. Prove the row's statement (the work); the ties are given (YtlpejbbmemhloaaGreatDoorTie.lean); close each card by the builder's one call (the guide's Derived/Test/ToyasCard.lean, 'card_holds'). Laid BY PROGRAM, IN A SANDBOX (cutbox-door.mjs). By AI agents, Wed Nov 11 2026. No macro, syntax, notation, axiom, sorry.
-/
import Derived.Test.YtlpejbbmemhloaaGreatDoorRows
import GoSem.ClaimSeven
namespace Go.Proofs.YtlpejbbmemhloaaGreatDoor
namespace Rows

/-- THE TIED CARD OF 'cambiumlaw06.HeapAsks'. -/
def heapAsksCard : Claim7 := { stood := { row := heapAsksRow, standIns := [], harness := (true, "a4dfaf53f9c879e7e9f32e36419b6697b5f899d479dd444b7d0a8796b1483cc6"), looks := false }, kinds := [], alts := [], laidByText := true, laidKinds := [.data, .data, .data, .pinned], laidTests := true, laidLooks := .later }
def HeapAsksCardSaid : Prop := Claim7.holds Tryz.pinned (.plain (OpenSpec.ofChange heapAsksSpec)) heapAsksCard

/-- THE TIED CARD OF 'cambiumlaw06.HeapChanges'. -/
def heapChangesCard : Claim7 := { stood := { row := heapChangesRow, standIns := [], harness := (true, "a4dfaf53f9c879e7e9f32e36419b6697b5f899d479dd444b7d0a8796b1483cc6"), looks := false }, kinds := [], alts := [], laidByText := true, laidKinds := [.data, .data, .data, .pinned], laidTests := true, laidLooks := .later }
def HeapChangesCardSaid : Prop := Claim7.holds Tryz.pinned (.plain (OpenSpec.ofChange heapChangesSpec)) heapChangesCard

/-- THE TIED CARD OF 'cambiumlaw06.HeapKept'. -/
def heapKeptCard : Claim7 := { stood := { row := heapKeptRow, standIns := [], harness := (true, "a4dfaf53f9c879e7e9f32e36419b6697b5f899d479dd444b7d0a8796b1483cc6"), looks := false }, kinds := [], alts := [], laidByText := true, laidKinds := [.data, .data, .data, .pinned], laidTests := true, laidLooks := .later }
def HeapKeptCardSaid : Prop := Claim7.holds Tryz.pinned (.plain (OpenSpec.ofChange heapKeptSpec)) heapKeptCard

/-- THE TIED CARD OF 'cambiumtop.TopNamed'. -/
def topNamedCard : Claim7 := { stood := { row := topNamedRow, standIns := [], harness := (true, "a4dfaf53f9c879e7e9f32e36419b6697b5f899d479dd444b7d0a8796b1483cc6"), looks := false }, kinds := [], alts := [], laidByText := true, laidKinds := [.data, .data, .data, .pinned], laidTests := true, laidLooks := .later }
def TopNamedCardSaid : Prop := Claim7.holds Tryz.pinned (.plain (OpenSpec.ofChange topNamedSpec)) topNamedCard

/-- THE SECOND FORM's CARD OF 'cambiumlaw06.HeapAsks'. -/
def heapAsksUptoCard : Claim7 := { stood := { row := heapAsksUptoRow, standIns := [], harness := (true, "a4dfaf53f9c879e7e9f32e36419b6697b5f899d479dd444b7d0a8796b1483cc6"), looks := false }, kinds := [], alts := [], laidByText := true, laidKinds := [.data, .data, .data, .pinned], laidTests := true, laidLooks := .later }
def HeapAsksUptoCardSaid : Prop := Claim7.holds Tryz.pinned (.plain (OpenSpec.upto heapAsksSpec)) heapAsksUptoCard

/-- THE SECOND FORM's CARD OF 'cambiumlaw06.HeapChanges'. -/
def heapChangesUptoCard : Claim7 := { stood := { row := heapChangesUptoRow, standIns := [], harness := (true, "a4dfaf53f9c879e7e9f32e36419b6697b5f899d479dd444b7d0a8796b1483cc6"), looks := false }, kinds := [], alts := [], laidByText := true, laidKinds := [.data, .data, .data, .pinned], laidTests := true, laidLooks := .later }
def HeapChangesUptoCardSaid : Prop := Claim7.holds Tryz.pinned (.plain (OpenSpec.upto heapChangesSpec)) heapChangesUptoCard

/-- THE SECOND FORM's CARD OF 'cambiumlaw06.HeapKept'. -/
def heapKeptUptoCard : Claim7 := { stood := { row := heapKeptUptoRow, standIns := [], harness := (true, "a4dfaf53f9c879e7e9f32e36419b6697b5f899d479dd444b7d0a8796b1483cc6"), looks := false }, kinds := [], alts := [], laidByText := true, laidKinds := [.data, .data, .data, .pinned], laidTests := true, laidLooks := .later }
def HeapKeptUptoCardSaid : Prop := Claim7.holds Tryz.pinned (.plain (OpenSpec.upto heapKeptSpec)) heapKeptUptoCard

/-- THE SECOND FORM's CARD OF 'cambiumtop.TopNamed'. -/
def topNamedUptoCard : Claim7 := { stood := { row := topNamedUptoRow, standIns := [], harness := (true, "a4dfaf53f9c879e7e9f32e36419b6697b5f899d479dd444b7d0a8796b1483cc6"), looks := false }, kinds := [], alts := [], laidByText := true, laidKinds := [.data, .data, .data, .pinned], laidTests := true, laidLooks := .later }
def TopNamedUptoCardSaid : Prop := Claim7.holds Tryz.pinned (.plain (OpenSpec.upto topNamedSpec)) topNamedUptoCard
end Rows
end Go.Proofs.YtlpejbbmemhloaaGreatDoor
