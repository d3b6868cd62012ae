/- Contracts of package item's Check and of the document's key and Check. -/
import Derived.Test.YtjkmfonngbendaaGreatDoorJtC
namespace Go.Proofs.YtjkmfonngbendaaGreatDoor.It
set_option linter.unusedVariables false
set_option maxRecDepth 100000
open Go.ChangeShapes Go.WideShapes Go.ChangeAt Go.RowKit
open Ar Rg St
theorem refKey_any (k : ByteArray) (w : World) :
    Calls Tryz.prog 112 #[.string k] w fun e w' => e = .returned (.bool (okKey k)) ∧ w = w' := by
  by_cases h0 : k.size = 0
  · have e0 : okKey k = false := by simp [okKey, h0]
    have hk : k = { data := #[] } := by
      obtain ⟨d⟩ := k
      congr
      exact Array.eq_empty_of_size_eq_zero h0
    rw [e0]
    subst hk
    go_enter Tryz.func112, Tryz.ntmps112
    go_wp2_with fail
    go_ret
    exact ⟨rfl, rfl⟩
  · have hk : k.toList.isEmpty = false := by
      rw [Bool.eq_false_iff]
      intro h
      have h2 : k.toList = [] := List.isEmpty_iff.1 h
      rw [ByteArray.toList_eq] at h2
      have h3 : k.data.size = 0 := by rw [← Array.length_toList, h2]; rfl
      exact h0 h3
    have e0 : okKey k = decide ((k.size : Int) ≤ 48) := by
      unfold okKey
      rw [decide_eq_true (show k.size ≠ 0 from h0), Bool.true_and]
      exact decide_eq_decide.2 (by omega)
    rw [e0]
    go_enter Tryz.func112, Tryz.ntmps112
    go_wp2_with fail
    go_ret
    exact ⟨rfl, rfl⟩
theorem refKey_at (k : ByteArray) (w : World) : Calls Tryz.prog 112 #[.string k] w fun e w' => e = .returned (.bool (okKey k)) ∧ w' = w := (refKey_any k w).mono fun e w' h => ⟨h.1, h.2.symm⟩
end Go.Proofs.YtjkmfonngbendaaGreatDoor.It
