/- Changes as elements of three cells; the comparison of two of them by key. -/
import Derived.Test.YtjkmfonngbendaaGreatDoorRows
import Derived.Test.YtjkmfonngbendaaGreatDoorArr
import Derived.Test.YtjkmfonngbendaaGreatDoorBy
import Derived.Test.YtjkmfonngbendaaGreatDoorReg
import Derived.Lib.Strings
import Derived.Lib.Bytealg
import Derived.LoopTactic
import Derived.OwnWalk
import Derived.BigQuiet
import Derived.WalkLawsBesides
import Derived.WalkSpells
import Derived.Lib.Hide
namespace Go.Proofs.YtjkmfonngbendaaGreatDoor.Sc
set_option linter.unusedVariables false
set_option maxRecDepth 100000
open Go.ChangeShapes Go.WideShapes Go.ChangeAt Go.RowKit
open Ar Rg
structure Ch where
  k : ByteArray
  h : Bool
  v : ByteArray
def enc (c : Ch) : List Value := [.string c.k, .bool c.h, .string c.v]
theorem enc_len (x : Ch) : (enc x).length = 3 := rfl
theorem enc_one (x : Ch) : ∀ v ∈ enc x, v.oneCell' = true := by
  intro v hv
  simp [enc] at hv
  rcases hv with rfl | rfl | rfl <;> rfl
def key (c : Ch) : List UInt8 := c.k.data.toList
def cf (x y : Ch) : Int := Lib.compareBytes (key x) (key y)
theorem cf_lt (x y : Ch) : cf x y < 0 ↔ By.bl (key x) (key y) = true := By.cmp_lt _ _
theorem compareString_any (a b : ByteArray) (w : World) :
    Calls Tryz.prog 130 #[.string a, .string b] w fun e w' => e = .returned (.int .i64 (Lib.compareBytes a.data.toList b.data.toList)) ∧ w = w' := by
  go_enter Tryz.func130, Tryz.ntmps130
  go_wp2_with fail
  rw [run_callFunc_extern Tryz.func173 (by kernel_rfl) (by kernel_rfl) (by kernel_rfl) (e := Extern.BytealgCompare.compare) (by kernel_rfl), Lib.run_compareString]
  simp only [Result.andThen]
  rw [Oper.upon_value]
  go_wp2
  go_ret
  exact ⟨rfl, rfl⟩
theorem compare_any (a b : ByteArray) (w : World) :
    Calls Tryz.prog 85 #[.string a, .string b] w fun e w' => e = .returned (.int .i64 (Lib.compareBytes a.data.toList b.data.toList)) ∧ w = w' := by
  go_enter Tryz.func85, Tryz.ntmps85
  go_wp2_with (go_at_call 130; refine (compareString_any _ _ _).mono ?_; rintro e w' ⟨rfl, rfl⟩)
  go_ret
  exact ⟨rfl, rfl⟩
theorem cmp_any (x y : Ch) (w : World) :
    Calls Tryz.prog 84 #[.agg (enc x).toArray, .agg (enc y).toArray] w fun e w' => e = .returned (.int .i64 (cf x y)) ∧ w.grownBy w' none := by
  show Calls Tryz.prog 84 #[.agg #[.string x.k, .bool x.h, .string x.v], .agg #[.string y.k, .bool y.h, .string y.v]] w _
  have G : w.grownBy ((w.alloc (.cells #[.string x.k, .bool x.h, .string x.v] 41)).alloc (.cells #[.string y.k, .bool y.h, .string y.v] 41)) none := grown_trans (World.grownBy_alloc w _ none) (World.grownBy_alloc _ _ none)
  have HG := Lib.hid G
  clear G
  go_enter Tryz.func84, Tryz.ntmps84
  go_wp2_with (go_at_call 85; refine (compare_any _ _ _).mono ?_; rintro e w' ⟨rfl, rfl⟩)
  go_ret
  exact ⟨rfl, HG.out⟩
def CMP : Value := .func (.func 84) #[] #[]
theorem infoE : (Tryz.prog.info? 41).map (·.size) = some 3 := by kernel_rfl
end Go.Proofs.YtjkmfonngbendaaGreatDoor.Sc
