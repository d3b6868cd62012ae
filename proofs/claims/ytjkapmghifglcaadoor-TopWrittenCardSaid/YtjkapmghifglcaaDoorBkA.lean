/- Blocks as elements of two cells; the comparison of two of them by number. -/
import Derived.Test.YtjkapmghifglcaaDoorRows
import Derived.Test.YtjkapmghifglcaaDoorArr
import Derived.Test.YtjkapmghifglcaaDoorBy
import Derived.Test.YtjkapmghifglcaaDoorReg
import Derived.Lib.Strings
import Derived.Lib.Bytealg
import Derived.LoopTactic
import Derived.OwnWalk
import Derived.BigQuiet
import Derived.WalkLawsBesides
import Derived.WalkSpells
import Derived.Lib.Hide
namespace Go.Proofs.YtjkapmghifglcaaDoor.Sb
set_option linter.unusedVariables false
open Go.ChangeShapes Go.WideShapes Go.ChangeAt Go.RowKit
open Ar Rg
structure Ch where
  n : Nat
  d : ByteArray
def enc (c : Ch) : List Value := [.int .u32 c.n, .string c.d]
theorem enc_len (x : Ch) : (enc x).length = 2 := rfl
theorem enc_one (x : Ch) : ∀ v ∈ enc x, v.oneCell' = true := by
  intro v hv
  simp [enc] at hv
  rcases hv with rfl | rfl <;> rfl
def key (c : Ch) : Nat := c.n
def nl (a b : Nat) : Bool := decide (a < b)
theorem nlOrd : St.Ord nl := by
  refine ⟨fun a b h => ?_, fun a b c h h' => ?_, fun a b h h' => ?_⟩
  · simp [nl] at *; omega
  · simp [nl] at *; omega
  · simp [nl] at *; omega
def cn (a b : Nat) : Int := if a < b then -1 else if b < a then 1 else 0
def cf (x y : Ch) : Int := cn (key x) (key y)
theorem cn_lt (a b : Nat) : cn a b < 0 ↔ nl a b = true := by
  unfold cn nl
  rw [decide_eq_true_iff]
  split
  · simp [*]
  · split <;> simp [*]
theorem cn_eq (a b : Nat) : cn a b = 0 ↔ a = b := by
  unfold cn
  split
  · constructor
    · intro h; cases h
    · omega
  · split
    · constructor
      · intro h; cases h
      · omega
    · constructor
      · omega
      · intro _; rfl
theorem cf_lt (x y : Ch) : cf x y < 0 ↔ nl (key x) (key y) = true := cn_lt _ _
theorem isNaN_any (a : Int) (w : World) :
    Calls Tryd.prog 86 #[.int .u32 a] w fun e w' => e = .returned (.bool false) ∧ w = w' := by
  go_enter Tryd.func86, Tryd.ntmps86
  go_wp2
  go_ret
  exact ⟨rfl, rfl⟩
theorem compare_any (a b : Nat) (w : World) :
    Calls Tryd.prog 73 #[.int .u32 a, .int .u32 b] w fun e w' => e = .returned (.int .i64 (cn a b)) ∧ w = w' := by
  by_cases h1 : a < b
  · have h2 : cn a b = -1 := by unfold cn; rw [if_pos h1]
    have q1 : decide ((a : Int) < (b : Int)) = true := by rw [decide_eq_true_iff]; omega
    have q2 : decide (a < b) = true := by rw [decide_eq_true_iff]; omega
    rw [h2]
    clear h1 h2
    go_enter Tryd.func73, Tryd.ntmps73
    go_wp2_with (go_at_call 86; refine (isNaN_any _ _).mono ?_; rintro e w' ⟨rfl, rfl⟩)
    go_ret
    exact ⟨rfl, rfl⟩
  · have q1 : decide ((a : Int) < (b : Int)) = false := by rw [decide_eq_false_iff_not]; omega
    have q2 : decide (a < b) = false := by rw [decide_eq_false_iff_not]; omega
    by_cases h3 : b < a
    · have h2 : cn a b = 1 := by unfold cn; rw [if_neg h1, if_pos h3]
      have q3 : decide ((b : Int) < (a : Int)) = true := by rw [decide_eq_true_iff]; omega
      have q4 : decide (b < a) = true := by rw [decide_eq_true_iff]; omega
      rw [h2]
      clear h1 h2 h3
      go_enter Tryd.func73, Tryd.ntmps73
      go_wp2_with (go_at_call 86; refine (isNaN_any _ _).mono ?_; rintro e w' ⟨rfl, rfl⟩)
      go_ret
      exact ⟨rfl, rfl⟩
    · have h2 : cn a b = 0 := by unfold cn; rw [if_neg h1, if_neg h3]
      have q3 : decide ((b : Int) < (a : Int)) = false := by rw [decide_eq_false_iff_not]; omega
      have q4 : decide (b < a) = false := by rw [decide_eq_false_iff_not]; omega
      rw [h2]
      clear h1 h2 h3
      go_enter Tryd.func73, Tryd.ntmps73
      go_wp2_with (go_at_call 86; refine (isNaN_any _ _).mono ?_; rintro e w' ⟨rfl, rfl⟩)
      go_ret
      exact ⟨rfl, rfl⟩
theorem cmp_any (x y : Ch) (w : World) :
    Calls Tryd.prog 56 #[.agg (enc x).toArray, .agg (enc y).toArray] w fun e w' => e = .returned (.int .i64 (cf x y)) ∧ w.grownBy w' none := by
  show Calls Tryd.prog 56 #[.agg #[.int .u32 x.n, .string x.d], .agg #[.int .u32 y.n, .string y.d]] w _
  have G : w.grownBy ((w.alloc (.cells #[.int .u32 x.n, .string x.d] 41)).alloc (.cells #[.int .u32 y.n, .string y.d] 41)) none := grown_trans (World.grownBy_alloc w _ none) (World.grownBy_alloc _ _ none)
  have HG := Lib.hid G
  clear G
  go_enter Tryd.func56, Tryd.ntmps56
  go_wp2_with (go_at_call 73; refine (compare_any _ _ _).mono ?_; rintro e w' ⟨rfl, rfl⟩)
  go_ret
  exact ⟨rfl, HG.out⟩
def CMP : Value := .func (.func 56) #[] #[]
theorem infoE : (Tryd.prog.info? 41).map (·.size) = some 2 := by kernel_rfl
end Go.Proofs.YtjkapmghifglcaaDoor.Sb
