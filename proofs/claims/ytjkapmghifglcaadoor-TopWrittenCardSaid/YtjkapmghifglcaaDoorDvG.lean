/- Contracts of package dev's sameNum, fromLast, Flush's and Crash's little functions. -/
import Derived.Test.YtjkapmghifglcaaDoorDvF
namespace Go.Proofs.YtjkapmghifglcaaDoor.Dv
set_option linter.unusedVariables false
open Go.ChangeShapes Go.WideShapes Go.ChangeAt Go.RowKit
open Ar Rg St
open BigFrame
set_option maxRecDepth 100000 in
set_option maxHeartbeats 1000000 in
theorem sameNum_any (x y : Bk) (w : World) :
    Calls Tryd.prog 71 #[.agg (enc x).toArray, .agg (enc y).toArray] w fun e w' => e = .returned (.bool (decide (x.n = y.n))) ∧ Below w.heap.size w w' := by
  show Calls Tryd.prog 71 #[.agg #[.int .u32 x.n, .string x.d], .agg #[.int .u32 y.n, .string y.d]] w _
  have HB := Lib.hid (show Below w.heap.size w ((w.alloc (.cells #[.int .u32 x.n, .string x.d] 41)).alloc (.cells #[.int .u32 y.n, .string y.d] 41)) from ((Below.refl _ _).alloc (Nat.le_refl _) _).alloc (by simp) _)
  have HE := Lib.hid (show ((x.n : Int) == (y.n : Int)) = decide (x.n = y.n) by
    by_cases h : x.n = y.n
    · rw [h]; simp
    · rw [decide_eq_false h, beq_eq_false_iff_ne]; omega)
  rw [← HE.out]
  go_enter Tryd.func71, Tryd.ntmps71
  go_wp2
  go_ret
  exact ⟨rfl, HB.out⟩
theorem all_any (i : Int) (w : World) :
    Calls Tryd.prog 37 #[.int .i64 i] w fun e w' => e = .returned (.bool true) ∧ w = w' := by
  go_enter Tryd.func37, Tryd.ntmps37
  go_wp2
  go_ret
  exact ⟨rfl, rfl⟩
set_option maxRecDepth 100000 in
set_option maxHeartbeats 1000000 in
theorem fromLast_any (N : Nat) (A A' : Option Addr) (n c m c' : Nat) (dn : Bool) (fu : Int) (w : World) :
    Calls Tryd.prog 54 #[devV N (.slice A n c) (.slice A' m c') dn fu] w fun e w' => e = .returned (.func (.func 72) #[] #[.pointer (some ⟨w.heap.size, 0, none⟩)]) ∧ w.alloc (.cells #[.int .u32 N, .slice A n c, .slice A' m c', .bool dn, .int .i64 fu] 57) = w' := by
  unfold devV
  go_enter Tryd.func54, Tryd.ntmps54
  go_wp2
  go_ret
  exact ⟨rfl, rfl⟩
/-- what a list of booleans says at a place -/
def kp (K : List Bool) (i : Nat) : Bool := K[i]?.getD false
set_option maxRecDepth 100000 in
set_option maxHeartbeats 1000000 in
theorem kept_any (K : List Bool) (i : Nat) (A : Option Addr) (n c : Nat) (p : Addr) (w : World) (hn : n = K.length) (hp : w.cell? p = some (.slice A n c)) (hK : ∀ j (h : j < K.length), ∃ b o, A = some ⟨b, o, none⟩ ∧ w.cell? ⟨b, o + j, none⟩ = some (.bool K[j])) :
    Calls Tryd.prog 42 #[.int .i64 i, .pointer (some p)] w fun e w' => e = .returned (.bool (kp K i)) ∧ w = w' := by
  have HN := Lib.hid hn
  clear hn
  by_cases h : i < n
  · have hl : i < K.length := by rw [← HN.out]; exact h
    obtain ⟨b, o, rfl, hc⟩ := hK i hl
    have HE := Lib.hid (show kp K i = K[i] by unfold kp; rw [List.getElem?_eq_getElem hl]; rfl)
    rw [HE.out]
    have q : decide ((i : Int) < (n : Int)) = true := decide_eq_true (by omega)
    obtain ⟨x, hx⟩ : ∃ x, K[i] = x := ⟨_, rfl⟩
    rw [hx] at hc ⊢
    clear hx hK HE hl
    go_enter Tryd.func42, Tryd.ntmps42
    go_wp2
    go_ret
    exact ⟨rfl, rfl⟩
  · have HE := Lib.hid (show kp K i = false by unfold kp; rw [List.getElem?_eq_none (by rw [← HN.out]; omega)]; rfl)
    rw [HE.out]
    have q : decide ((i : Int) < (n : Int)) = false := decide_eq_false (by omega)
    clear hK
    go_enter Tryd.func42, Tryd.ntmps42
    go_wp2
    go_ret
    exact ⟨rfl, rfl⟩
end Go.Proofs.YtjkapmghifglcaaDoor.Dv
