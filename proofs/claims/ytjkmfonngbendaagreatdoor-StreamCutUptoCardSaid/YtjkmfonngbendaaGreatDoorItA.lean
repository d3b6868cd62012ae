/- Items as elements of two cells; lists of structs that came in; the contract of package item's rightKey. -/
import Derived.Test.YtjkmfonngbendaaGreatDoorRows
import Derived.Test.YtjkmfonngbendaaGreatDoorLs
import Derived.Test.YtjkmfonngbendaaGreatDoorBy
import Derived.Test.YtjkmfonngbendaaGreatDoorReg
import Derived.LoopTactic
import Derived.OwnWalk
import Derived.BigQuiet
import Derived.WalkLawsBesides
import Derived.WalkSpells
import Derived.Lib.Hide
namespace Go.Proofs.YtjkmfonngbendaaGreatDoor.It
set_option linter.unusedVariables false
set_option maxRecDepth 100000
open Go.ChangeShapes Go.WideShapes Go.ChangeAt Go.RowKit
open Ar Rg St
structure Itm where
  k : ByteArray
  v : ByteArray
def enc (c : Itm) : List Value := [.string c.k, .string c.v]
theorem enc_len (x : Itm) : (enc x).length = 2 := rfl
def key (c : Itm) : List UInt8 := c.k.data.toList
def okKey (k : ByteArray) : Bool := decide (k.size ≠ 0) && decide (k.size ≤ 48)
theorem rightKey_any (k : ByteArray) (w : World) :
    Calls Tryz.prog 81 #[.string k] w fun e w' => e = .returned (.bool (okKey k)) ∧ w = w' := by
  by_cases h0 : k.size = 0
  · have e0 : okKey k = false := by simp [okKey, h0]
    have hk : k = { data := #[] } := by
      obtain ⟨d⟩ := k
      congr
      exact Array.eq_empty_of_size_eq_zero h0
    rw [e0]
    subst hk
    go_enter Tryz.func81, Tryz.ntmps81
    go_wp2_with fail
    go_ret
    exact ⟨rfl, rfl⟩
  · have hk : k.toList.isEmpty = false := by
      rw [Bool.eq_false_iff]
      intro h
      have h2 : k.toList = [] := List.isEmpty_iff.1 h
      rw [ByteArray.toList_eq] at h2
      have h3 : k.data.size = 0 := by rw [← Array.length_toList, h2]; rfl
      exact h0 h3
    have e0 : okKey k = decide ((k.size : Int) ≤ 48) := by
      unfold okKey
      rw [decide_eq_true (show k.size ≠ 0 from h0), Bool.true_and]
      exact decide_eq_decide.2 (by omega)
    rw [e0]
    go_enter Tryz.func81, Tryz.ntmps81
    go_wp2_with fail
    go_ret
    exact ⟨rfl, rfl⟩
end Go.Proofs.YtjkmfonngbendaaGreatDoor.It
