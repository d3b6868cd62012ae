/-
  DERIVED. GIVEN WITH THE SEED: THE CARDS: each row of YtkmbophbjgfacaaDoorRows.lean that lists a variable, with what it lists TIED to the program's text (the seventh form; the later family's looks); each row that meets fmt, with fmt's text TOLD by the authors' own Lean function (tested against real Go, not proved from fmt's source: count such statements apart). THE CARD IS WHAT COUNTS. Prove the row's statement (the work); the ties are given (YtkmbophbjgfacaaDoorTie.lean); close each card by the builder's one call (the guide's Derived/Test/ToyasCard.lean, 'card_holds'). Laid BY PROGRAM, IN A SANDBOX (cutbox-door.mjs). By AI agents, Wed Nov 11 2026. No macro, syntax, notation, axiom, sorry.
-/
import Derived.Test.YtkmbophbjgfacaaDoorRows
import GoSem.ClaimSeven
namespace Go.Proofs.YtkmbophbjgfacaaDoor
namespace Rows

/-- THE TIED CARD OF 'cambiumtop.TopKeyed'. -/
def topKeyedCard : Claim7 := { stood := { row := topKeyedRow, standIns := [], harness := (true, "84f783900bbb333e8d7be3ba55da926c39c30cddd448e2c3fd3695fca6780b7c"), looks := false }, kinds := [], alts := [], laidByText := true, laidKinds := [.data, .data], laidTests := true, laidLooks := .later }
def TopKeyedCardSaid : Prop := Claim7.holds Tryd.pinned (.plain (OpenSpec.ofChange topKeyedSpec)) topKeyedCard

/-- THE SECOND FORM's CARD OF 'cambiumtop.TopKeyed'. -/
def topKeyedUptoCard : Claim7 := { stood := { row := topKeyedUptoRow, standIns := [], harness := (true, "84f783900bbb333e8d7be3ba55da926c39c30cddd448e2c3fd3695fca6780b7c"), looks := false }, kinds := [], alts := [], laidByText := true, laidKinds := [.data, .data], laidTests := true, laidLooks := .later }
def TopKeyedUptoCardSaid : Prop := Claim7.holds Tryd.pinned (.plain (OpenSpec.upto topKeyedSpec)) topKeyedUptoCard
end Rows
end Go.Proofs.YtkmbophbjgfacaaDoor
