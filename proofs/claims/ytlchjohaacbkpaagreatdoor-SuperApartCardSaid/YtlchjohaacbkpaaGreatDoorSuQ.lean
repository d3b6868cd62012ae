/- The walk of the law SuperApart, with the laws' own question. -/
import Derived.Test.YtlchjohaacbkpaaGreatDoorSuG
import Derived.Test.YtlchjohaacbkpaaGreatDoorSuP
namespace Go.Proofs.YtlchjohaacbkpaaGreatDoor.Sa
open Go.ChangeShapes Go.WideShapes Go.ChangeAt Go.RowKit
open Sp
theorem superApart_walk (w : World) (p : Su) (hl : p.lim) (q : Su) (hk : q.lim) :
    Calls Tryz.prog 8 #[vS p, vS q] w fun e w' => e = .returned (.bool true) ∧ Below w.heap.size w w' := Sp.superApart_walk Sp.lives_su w p hl q hk
end Go.Proofs.YtlchjohaacbkpaaGreatDoor.Sa
