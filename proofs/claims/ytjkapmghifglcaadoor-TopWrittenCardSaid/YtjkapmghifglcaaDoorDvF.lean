/- Contracts of package dev's burn, whyNotHad, whyNotWritten. -/
import Derived.Test.YtjkapmghifglcaaDoorDvE
namespace Go.Proofs.YtjkapmghifglcaaDoor.Dv
set_option linter.unusedVariables false
open Go.ChangeShapes Go.WideShapes Go.ChangeAt Go.RowKit
open Ar Rg St
open BigFrame
def burnE (fu : Int) : Int := if fu = 0 then 17 else 0
def burnW (w : World) (b : Nat) (fu : Int) : World := if fu = 0 then w.setCell ⟨b, 3, none⟩ (.bool true) else if 0 < fu then w.setCell ⟨b, 4, none⟩ (.int .i64 (fu - 1)) else w
def burnD (dn : Bool) (fu : Int) : Bool := if fu = 0 then true else dn
def burnF (fu : Int) : Int := if 0 < fu then fu - 1 else fu
theorem Box.burn {w : World} {b N : Nat} {v1 v2 : Value} {dn : Bool} {fu : Int} (h : Box w b N v1 v2 dn fu) : Box (burnW w b fu) b N v1 v2 (burnD dn fu) (burnF fu) := by
  unfold burnW burnD burnF
  by_cases h0 : fu = 0
  · subst h0
    simp only [if_true, Int.lt_irrefl, if_false]
    exact h.set3 true
  · by_cases h1 : 0 < fu
    · rw [if_neg h0, if_pos h1, if_neg h0, if_pos h1]
      exact h.set4 _
    · rw [if_neg h0, if_neg h1, if_neg h0, if_neg h1]
      exact h
theorem Two.burn {B : Nat} {wr : World} {v1 v2 : Value} {D W : List Bk} (h : Two B wr v1 D v2 W) {b : Nat} (hb : b < B) (fu : Int) : Two B (burnW wr b fu) v1 D v2 W := by
  unfold burnW
  split
  · exact h.far (p := ⟨b, 3, none⟩) hb _
  · split
    · exact h.far (p := ⟨b, 4, none⟩) hb _
    · exact h
theorem below_burn {B : Nat} {w wr : World} (h : Below B w wr) {b : Nat} (hb : B ≤ b) (fu : Int) : Below B w (burnW wr b fu) := by
  unfold burnW
  split
  · exact h.setCell (p := ⟨b, 3, none⟩) hb _
  · split
    · exact h.setCell (p := ⟨b, 4, none⟩) hb _
    · exact h
set_option maxRecDepth 100000 in
set_option maxHeartbeats 1000000 in
theorem burn_any {w : World} {b N : Nat} {v1 v2 : Value} {dn : Bool} {fu : Int} (h : Box w b N v1 v2 dn fu) (hlo : -9223372036854775808 ≤ fu) (hhi : fu ≤ 9223372036854775807) :
    Calls Tryd.prog 35 #[.pointer (some ⟨b, 0, none⟩)] w fun e w' => e = .returned (.int .i64 (burnE fu)) ∧ burnW w b fu = w' := by
  have c4 := h.c4
  have f4 := h.fr 4
  have c3 := h.c3
  have f3 := h.fr 3
  clear h
  by_cases h0 : fu = 0
  · subst h0
    go_enter Tryd.func35, Tryd.ntmps35
    go_wp2
    go_ret
    exact ⟨rfl, rfl⟩
  · have HE := Lib.hid (show burnE fu = 0 by unfold burnE; rw [if_neg h0])
    have q0 : decide (fu = 0) = false := decide_eq_false h0
    by_cases h1 : 0 < fu
    · have HW := Lib.hid (show burnW w b fu = w.setCell ⟨b, 4, none⟩ (.int .i64 (fu - 1)) by unfold burnW; rw [if_neg h0, if_pos h1])
      rw [HE.out, HW.out]
      go_enter Tryd.func35, Tryd.ntmps35
      go_wp2
      go_ret
      exact ⟨rfl, rfl⟩
    · have HW := Lib.hid (show burnW w b fu = w by unfold burnW; rw [if_neg h0, if_neg h1])
      have q1 : decide (0 < fu) = false := decide_eq_false h1
      rw [HE.out, HW.out]
      go_enter Tryd.func35, Tryd.ntmps35
      go_wp2
      go_ret
      exact ⟨rfl, rfl⟩
def hadE (N num : Nat) (s : ByteArray) : Int := if N ≤ num then 1 else if 512 < s.size then 2 else 0
def wrE (N num : Nat) (s : ByteArray) (m : Nat) (dn : Bool) : Int := if dn then 17 else if hadE N num s ≠ 0 then hadE N num s else if m = 16384 then 8 else 0
set_option maxRecDepth 100000 in
set_option maxHeartbeats 1000000 in
theorem had_any (N num : Nat) (A A' : Option Addr) (n c m c' : Nat) (dn : Bool) (fu : Int) (s : ByteArray) (w : World) :
    Calls Tryd.prog 43 #[devV N (.slice A n c) (.slice A' m c') dn fu, .int .u32 num, .string s] w fun e w' => e = .returned (.int .i64 (hadE N num s)) ∧ Below w.heap.size w w' := by
  unfold devV
  have HB := Lib.hid (show Below w.heap.size w (w.alloc (.cells #[.int .u32 N, .slice A n c, .slice A' m c', .bool dn, .int .i64 fu] 57)) from (Below.refl _ _).alloc (Nat.le_refl _) _)
  by_cases h0 : N ≤ num
  · have HE := Lib.hid (show hadE N num s = 1 by unfold hadE; rw [if_pos h0])
    rw [HE.out]
    have q0 : decide ((N : Int) ≤ (num : Int)) = true := decide_eq_true (by omega)
    go_enter Tryd.func43, Tryd.ntmps43
    go_wp2
    go_ret
    exact ⟨rfl, HB.out⟩
  · have q0 : decide ((N : Int) ≤ (num : Int)) = false := decide_eq_false (by omega)
    by_cases h1 : 512 < s.size
    · have HE := Lib.hid (show hadE N num s = 2 by unfold hadE; rw [if_neg h0, if_pos h1])
      rw [HE.out]
      have q1 : decide ((512 : Int) < (s.size : Int)) = true := decide_eq_true (by omega)
      go_enter Tryd.func43, Tryd.ntmps43
      go_wp2
      go_ret
      exact ⟨rfl, HB.out⟩
    · have HE := Lib.hid (show hadE N num s = 0 by unfold hadE; rw [if_neg h0, if_neg h1])
      rw [HE.out]
      have q1 : decide ((512 : Int) < (s.size : Int)) = false := decide_eq_false (by omega)
      go_enter Tryd.func43, Tryd.ntmps43
      go_wp2
      go_ret
      exact ⟨rfl, HB.out⟩
set_option maxRecDepth 100000 in
set_option maxHeartbeats 1000000 in
theorem wr_any (N num : Nat) (A A' : Option Addr) (n c m c' : Nat) (dn : Bool) (fu : Int) (s : ByteArray) (w : World) :
    Calls Tryd.prog 67 #[devV N (.slice A n c) (.slice A' m c') dn fu, .int .u32 num, .string s] w fun e w' => e = .returned (.int .i64 (wrE N num s m dn)) ∧ Below w.heap.size w w' := by
  have HC := Lib.hid (fun w => had_any N num A A' n c m c' dn fu s w)
  unfold devV at *
  have HB := Lib.hid (show Below w.heap.size w (w.alloc (.cells #[.int .u32 N, .slice A n c, .slice A' m c', .bool dn, .int .i64 fu] 57)) from (Below.refl _ _).alloc (Nat.le_refl _) _)
  cases dn with
  | true =>
    have HE := Lib.hid (show wrE N num s m true = 17 from rfl)
    rw [HE.out]
    go_enter Tryd.func67, Tryd.ntmps67
    go_wp2
    go_ret
    exact ⟨rfl, HB.out⟩
  | false =>
    obtain ⟨x, hx⟩ : ∃ x, hadE N num s = x := ⟨_, rfl⟩
    rw [hx] at HC
    by_cases h0 : x = 0
    · subst h0
      have HE := Lib.hid (show wrE N num s m false = if m = 16384 then 8 else 0 by unfold wrE; rw [hx]; rfl)
      rw [HE.out]
      have z2 : (w.alloc (.cells #[.int .u32 N, .slice A n c, .slice A' m c', .bool false, .int .i64 fu] 57)).cell? ⟨w.heap.size, 2, none⟩ = some (.slice A' m c') := by simp
      have zs : w.heap.size < (w.alloc (.cells #[.int .u32 N, .slice A n c, .slice A' m c', .bool false, .int .i64 fu] 57)).heap.size := by simp
      clear hx
      go_enter Tryd.func67, Tryd.ntmps67
      go_wp2_with fail
      generalize w.alloc _ = W0 at *
      go_at_call 43
      refine (HC.out _).mono ?_
      rintro e w1 ⟨rfl, hb1⟩
      have z3 : w1.cell? ⟨w.heap.size, 2, none⟩ = some (.slice A' m c') := (hb1.cell (p := ⟨w.heap.size, 2, none⟩) zs).trans z2
      have HB1 := Lib.hid (HB.out.trans (hb1.mono HB.out.size))
      clear hb1
      by_cases h2 : m = 16384
      · subst h2
        go_wp2
        go_ret
        exact ⟨rfl, HB1.out⟩
      · have q2 : decide ((m : Int) = 16384) = false := decide_eq_false (by omega)
        have HN := Lib.hid h2
        go_wp2
        go_ret
        exact ⟨rfl, HB1.out⟩
    · have HE := Lib.hid (show wrE N num s m false = x by unfold wrE; rw [hx]; simp [h0])
      rw [HE.out]
      clear hx
      go_enter Tryd.func67, Tryd.ntmps67
      go_wp2_with fail
      generalize w.alloc _ = W0 at *
      go_at_call 43
      refine (HC.out _).mono ?_
      rintro e w1 ⟨rfl, hb1⟩
      have HB1 := Lib.hid (HB.out.trans (hb1.mono HB.out.size))
      clear hb1
      go_wp2
      go_ret
      exact ⟨rfl, HB1.out⟩
end Go.Proofs.YtjkapmghifglcaaDoor.Dv
