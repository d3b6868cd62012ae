/- Contracts of package item's Check and of the document's key and Check. -/
import Derived.Test.YtcnggidihkcndaaGreatDoorItB
namespace Go.Proofs.YtcnggidihkcndaaGreatDoor.It
set_option linter.unusedVariables false
set_option maxRecDepth 100000
open Go.ChangeShapes Go.WideShapes Go.ChangeAt Go.RowKit
open Ar Rg St
def errF (b : Bool) : Value := .int .i64 (if b then 0 else 4)
end Go.Proofs.YtcnggidihkcndaaGreatDoor.It
