/- Contracts of package hash's valueOf and of the document's digit: a digit's value. -/
import Derived.Test.YtglciacjfoimlaaDoorRows
import Derived.Test.YtglciacjfoimlaaDoorHexM
import Derived.WalkKit
import Derived.ProofKit
import Derived.Handy
import Derived.BigQuiet
import Derived.Deep.QuietTactic
import Derived.RegionTactic
import Derived.Outline
import Derived.WalkLawsBesides
import Derived.WalkSpells
import Derived.Lib.Hide
namespace Go.Proofs.YtglciacjfoimlaaDoor.Hc
set_option linter.unusedVariables false
open Go.ChangeShapes Go.WideShapes Go.ChangeAt Go.RowKit
theorem ret2b {a a' : Int} {b b' : Bool} (h1 : a = a') (h2 : b = b') : Ending.returned (.tuple #[.int .u8 a, .bool b]) = .returned (.tuple #[.int .u8 a', .bool b']) := by rw [h1, h2]
theorem valueOf_any (n : Nat) (hn : n < 256) (w : World) :
    Calls Tryd.prog 24 #[.int .u8 n] w fun e w' => e = .returned (.tuple #[.int .u8 (dV n : Nat), .bool (dOk n)]) ∧ w = w' := by
  by_cases h1 : 48 ≤ n ∧ n ≤ 57
  · have ha : (48 : Int) ≤ n := by omega
    have hb : (n : Int) ≤ 57 := by omega
    go_enter Tryd.func24, Tryd.ntmps24
    go_wp2
    go_ret2
    refine ⟨ret2b ?_ ?_, rfl⟩
    · unfold dV; rw [if_pos h1]; omega
    · unfold dOk; simp; omega
  · by_cases h2 : 97 ≤ n ∧ n ≤ 102
    · have ha : (97 : Int) ≤ n := by omega
      have hb : (n : Int) ≤ 102 := by omega
      go_enter Tryd.func24, Tryd.ntmps24
      go_wp2
      go_ret2
      refine ⟨ret2b ?_ ?_, rfl⟩
      · unfold dV; rw [if_neg h1, if_pos h2]; omega
      · unfold dOk; simp; omega
    · have H1 := Lib.hid h1
      have H2 := Lib.hid h2
      clear h1 h2
      go_enter Tryd.func24, Tryd.ntmps24
      go_wp2
      all_goals first
        | (exfalso; have := H1.out; have := H2.out; omega)
        | (go_ret2
           refine ⟨ret2b ?_ ?_, rfl⟩
           · unfold dV; rw [if_neg H1.out, if_neg H2.out]; rfl
           · unfold dOk; have := H1.out; have := H2.out; simp; omega)
end Go.Proofs.YtglciacjfoimlaaDoor.Hc
