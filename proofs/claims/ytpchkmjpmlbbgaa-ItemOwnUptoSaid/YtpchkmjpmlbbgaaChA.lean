/- Changes as elements of three cells; the comparison of two of them by key. -/
import Derived.Test.YtpchkmjpmlbbgaaRows
import Derived.Test.YtpchkmjpmlbbgaaArr
import Derived.Test.YtpchkmjpmlbbgaaBy
import Derived.Test.YtpchkmjpmlbbgaaReg
import Derived.Lib.Strings
import Derived.Lib.Bytealg
import Derived.LoopTactic
import Derived.OwnWalk
import Derived.BigQuiet
import Derived.WalkLawsBesides
import Derived.WalkSpells
import Derived.Lib.Hide
namespace Go.Proofs.Ytpchkmjpmlbbgaa.Sc
set_option linter.unusedVariables false
open Go.ChangeShapes Go.WideShapes Go.ChangeAt Go.RowKit
open Ar Rg
structure Ch where
  k : ByteArray
  h : Bool
  v : ByteArray
def enc (c : Ch) : List Value := [.string c.k, .bool c.h, .string c.v]
theorem enc_len (x : Ch) : (enc x).length = 3 := rfl
theorem enc_one (x : Ch) : ∀ v ∈ enc x, v.oneCell' = true := by
  intro v hv
  simp [enc] at hv
  rcases hv with rfl | rfl | rfl <;> rfl
def key (c : Ch) : List UInt8 := c.k.data.toList
def cf (x y : Ch) : Int := Lib.compareBytes (key x) (key y)
theorem cf_lt (x y : Ch) : cf x y < 0 ↔ By.bl (key x) (key y) = true := By.cmp_lt _ _
theorem compareString_any (a b : ByteArray) (w : World) :
    Calls Try.prog 44 #[.string a, .string b] w fun e w' => e = .returned (.int .i64 (Lib.compareBytes a.data.toList b.data.toList)) ∧ w = w' := by
  go_enter Try.func44, Try.ntmps44
  go_wp2_with fail
  rw [run_callFunc_extern Try.func46 (by kernel_rfl) (by kernel_rfl) (by kernel_rfl) (e := Extern.BytealgCompare.compare) (by kernel_rfl), Lib.run_compareString]
  simp only [Result.andThen]
  rw [Oper.upon_value]
  go_wp2
  go_ret
  exact ⟨rfl, rfl⟩
theorem compare_any (a b : ByteArray) (w : World) :
    Calls Try.prog 39 #[.string a, .string b] w fun e w' => e = .returned (.int .i64 (Lib.compareBytes a.data.toList b.data.toList)) ∧ w = w' := by
  go_enter Try.func39, Try.ntmps39
  go_wp2_with (go_at_call 44; refine (compareString_any _ _ _).mono ?_; rintro e w' ⟨rfl, rfl⟩)
  go_ret
  exact ⟨rfl, rfl⟩
theorem cmp_any (x y : Ch) (w : World) :
    Calls Try.prog 42 #[.agg (enc x).toArray, .agg (enc y).toArray] w fun e w' => e = .returned (.int .i64 (cf x y)) ∧ w.grownBy w' none := by
  show Calls Try.prog 42 #[.agg #[.string x.k, .bool x.h, .string x.v], .agg #[.string y.k, .bool y.h, .string y.v]] w _
  have G : w.grownBy ((w.alloc (.cells #[.string x.k, .bool x.h, .string x.v] 39)).alloc (.cells #[.string y.k, .bool y.h, .string y.v] 39)) none := grown_trans (World.grownBy_alloc w _ none) (World.grownBy_alloc _ _ none)
  have HG := Lib.hid G
  clear G
  go_enter Try.func42, Try.ntmps42
  go_wp2_with (go_at_call 39; refine (compare_any _ _ _).mono ?_; rintro e w' ⟨rfl, rfl⟩)
  go_ret
  exact ⟨rfl, HG.out⟩
def CMP : Value := .func (.func 42) #[] #[]
theorem infoE : (Try.prog.info? 39).map (·.size) = some 3 := by kernel_rfl
end Go.Proofs.Ytpchkmjpmlbbgaa.Sc
