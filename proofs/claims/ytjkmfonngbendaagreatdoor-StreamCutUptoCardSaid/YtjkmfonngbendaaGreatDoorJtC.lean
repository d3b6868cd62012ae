/- Contracts of package item's Check and of the document's key and Check. -/
import Derived.Test.YtjkmfonngbendaaGreatDoorItB
namespace Go.Proofs.YtjkmfonngbendaaGreatDoor.It
set_option linter.unusedVariables false
open Go.ChangeShapes Go.WideShapes Go.ChangeAt Go.RowKit
open Ar Rg St
def errF (b : Bool) : Value := .int .i64 (if b then 0 else 4)
theorem check_any (D : List Itm) (A : Option Addr) (n cap B : Nat) (hn : n = D.length) (hm : n ≤ 281474976710656) (w : World) (hB : B ≤ w.heap.size) (hD : Ls enc 2 w B A D) :
    Calls Tryz.prog 60 #[.slice A n cap] w fun e w' => e = .returned (errF (rt D)) ∧ Below w.heap.size w w' := by
  have HC := Lib.hid (rightList_any D A n cap B hn hm w hB hD)
  clear hD hn
  generalize rt D = q at *
  cases q
  · go_enter Tryz.func60, Tryz.ntmps60
    go_wp2_with (go_at_call 41; refine HC.out.mono ?_; rintro e w1 ⟨rfl, hb1⟩)
    go_ret
    exact ⟨rfl, by assumption⟩
  · go_enter Tryz.func60, Tryz.ntmps60
    go_wp2_with (go_at_call 41; refine HC.out.mono ?_; rintro e w1 ⟨rfl, hb1⟩)
    go_ret
    exact ⟨rfl, by assumption⟩
end Go.Proofs.YtjkmfonngbendaaGreatDoor.It
