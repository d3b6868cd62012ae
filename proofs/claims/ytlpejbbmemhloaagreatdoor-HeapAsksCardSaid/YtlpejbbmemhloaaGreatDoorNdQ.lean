/- Contract of package node's rightVolume. -/
import Derived.Test.YtlpejbbmemhloaaGreatDoorNdB
namespace Go.Proofs.YtlpejbbmemhloaaGreatDoor.Nd
set_option linter.unusedVariables false
open Go.ChangeShapes Go.WideShapes Go.ChangeAt Go.RowKit
open Rg
open Pk (u8s u8s_length)
theorem okV_eq (x : Vo) : okV x = (decide (x.nm.size ≠ 0) && (decide (x.nm.size ≤ 16) && (decide (x.fr.size ≤ 16) && (decide (1 ≤ x.kd) && (decide (x.kd ≤ 2) && rtRoot x))))) := rfl
set_option maxRecDepth 100000 in
set_option maxHeartbeats 4000000 in
theorem rightVolume_any (x : Vo) (hl : x.hs.length = 32) (w : World) :
    Calls Tryz.prog 140 #[.agg (encV x).toArray] w fun e w' => e = .returned (.bool (okV x)) ∧ Below w.heap.size w w' := by
  have HB := Lib.hid (show Below w.heap.size w (w.alloc (.cells (encV x).toArray 121)) from (Below.refl _ _).alloc (Nat.le_refl _) _)
  have HR := Lib.hid (heap_alloc_new w (.cells (encV x).toArray 121))
  have HRR := Lib.hid (fun w => rightRoot_any x hl w)
  have HI := Lib.hid (show (Tryz.prog.info? 121).map (·.size) = some (encV x).toArray.size by rw [List.size_toArray]; unfold encV; simp only [List.length_cons, u8s_length, hl]; kernel_rfl)
  by_cases c1 : x.nm.size ≠ 0
  · skip
    by_cases c2 : x.nm.size ≤ 16
    · skip
      by_cases c3 : x.fr.size ≤ 16
      · skip
        by_cases c4 : 1 ≤ x.kd
        · skip
          by_cases c5 : x.kd ≤ 2
          · skip
            have HX := Lib.hid (show okV x = rtRoot x by rw [okV_eq, decide_eq_true c1, decide_eq_true c2, decide_eq_true c3, decide_eq_true c4, decide_eq_true c5, Bool.true_and, Bool.true_and, Bool.true_and, Bool.true_and, Bool.true_and])
            rw [HX.out]
            have t1a : x.nm.toList.isEmpty = false := by rw [ByteArray.toList_eq, List.isEmpty_eq_false_iff]; intro h; exact c1 (show x.nm.data.size = 0 by rw [← Array.length_toList, h]; rfl)
            have t1b : ¬ x.nm.toList = [] := by intro h; rw [h] at t1a; cases t1a
            have t2 : decide ((x.nm.size : Int) ≤ 16) = true := by rw [decide_eq_true_iff]; omega
            have t3 : decide ((x.fr.size : Int) ≤ 16) = true := by rw [decide_eq_true_iff]; omega
            have t4 : decide ((0 : Int) < (x.kd : Int)) = true := by rw [decide_eq_true_iff]; omega
            have t4b : decide (0 < x.kd) = true := by rw [decide_eq_true_iff]; omega
            have t5 : decide ((x.kd : Int) < 3) = true := by rw [decide_eq_true_iff]; omega
            clear c1 c2 c3 c4 c5
            go_enter Tryz.func140, Tryz.ntmps140
            have k0 : (w.alloc (.cells (encV x).toArray 121)).cell? ⟨w.heap.size, 0, none⟩ = some (.string x.nm) := cell_of_row _ _ 0 _ _ _ HR.out
            have k1 : (w.alloc (.cells (encV x).toArray 121)).cell? ⟨w.heap.size, 1, none⟩ = some (.int .u8 x.kd) := cell_of_row _ _ 1 _ _ _ HR.out
            have k2 : (w.alloc (.cells (encV x).toArray 121)).cell? ⟨w.heap.size, 2, none⟩ = some (.string x.fr) := cell_of_row _ _ 2 _ _ _ HR.out
            generalize hW : w.alloc (.cells (encV x).toArray 121) = w1 at *
            go_wp2_with (first
              | (refine wpList_load_row_g 121 (.tmp 1) rfl (by kernel_rfl) w.heap.size rfl 121 (encV x).toArray (0, 0) _ HR.out Tryz.underlying121 rfl HI.out ?_)
              | (go_at_call 161; refine (HRR.out _).mono ?_; rintro e w' ⟨rfl, hb⟩))
            go_ret
            exact ⟨rfl, HB.out.trans (hb.mono HB.out.size)⟩
          · skip
            have HX := Lib.hid (show okV x = false by rw [okV_eq, decide_eq_true c1, Bool.true_and, decide_eq_true c2, Bool.true_and, decide_eq_true c3, Bool.true_and, decide_eq_true c4, Bool.true_and, decide_eq_false c5, Bool.false_and])
            rw [HX.out]
            have t1a : x.nm.toList.isEmpty = false := by rw [ByteArray.toList_eq, List.isEmpty_eq_false_iff]; intro h; exact c1 (show x.nm.data.size = 0 by rw [← Array.length_toList, h]; rfl)
            have t1b : ¬ x.nm.toList = [] := by intro h; rw [h] at t1a; cases t1a
            have t2 : decide ((x.nm.size : Int) ≤ 16) = true := by rw [decide_eq_true_iff]; omega
            have t3 : decide ((x.fr.size : Int) ≤ 16) = true := by rw [decide_eq_true_iff]; omega
            have t4 : decide ((0 : Int) < (x.kd : Int)) = true := by rw [decide_eq_true_iff]; omega
            have t4b : decide (0 < x.kd) = true := by rw [decide_eq_true_iff]; omega
            have t5 : decide ((x.kd : Int) < 3) = false := by rw [decide_eq_false_iff_not]; omega
            clear c1 c2 c3 c4 c5
            go_enter Tryz.func140, Tryz.ntmps140
            have k0 : (w.alloc (.cells (encV x).toArray 121)).cell? ⟨w.heap.size, 0, none⟩ = some (.string x.nm) := cell_of_row _ _ 0 _ _ _ HR.out
            have k1 : (w.alloc (.cells (encV x).toArray 121)).cell? ⟨w.heap.size, 1, none⟩ = some (.int .u8 x.kd) := cell_of_row _ _ 1 _ _ _ HR.out
            have k2 : (w.alloc (.cells (encV x).toArray 121)).cell? ⟨w.heap.size, 2, none⟩ = some (.string x.fr) := cell_of_row _ _ 2 _ _ _ HR.out
            generalize hW : w.alloc (.cells (encV x).toArray 121) = w1 at *
            go_wp2
            go_ret
            exact ⟨rfl, HB.out⟩
        · skip
          have HX := Lib.hid (show okV x = false by rw [okV_eq, decide_eq_true c1, Bool.true_and, decide_eq_true c2, Bool.true_and, decide_eq_true c3, Bool.true_and, decide_eq_false c4, Bool.false_and])
          rw [HX.out]
          have t1a : x.nm.toList.isEmpty = false := by rw [ByteArray.toList_eq, List.isEmpty_eq_false_iff]; intro h; exact c1 (show x.nm.data.size = 0 by rw [← Array.length_toList, h]; rfl)
          have t1b : ¬ x.nm.toList = [] := by intro h; rw [h] at t1a; cases t1a
          have t2 : decide ((x.nm.size : Int) ≤ 16) = true := by rw [decide_eq_true_iff]; omega
          have t3 : decide ((x.fr.size : Int) ≤ 16) = true := by rw [decide_eq_true_iff]; omega
          have t4 : decide ((0 : Int) < (x.kd : Int)) = false := by rw [decide_eq_false_iff_not]; omega
          have t4b : decide (0 < x.kd) = false := by rw [decide_eq_false_iff_not]; omega
          clear c1 c2 c3 c4
          go_enter Tryz.func140, Tryz.ntmps140
          have k0 : (w.alloc (.cells (encV x).toArray 121)).cell? ⟨w.heap.size, 0, none⟩ = some (.string x.nm) := cell_of_row _ _ 0 _ _ _ HR.out
          have k1 : (w.alloc (.cells (encV x).toArray 121)).cell? ⟨w.heap.size, 1, none⟩ = some (.int .u8 x.kd) := cell_of_row _ _ 1 _ _ _ HR.out
          have k2 : (w.alloc (.cells (encV x).toArray 121)).cell? ⟨w.heap.size, 2, none⟩ = some (.string x.fr) := cell_of_row _ _ 2 _ _ _ HR.out
          generalize hW : w.alloc (.cells (encV x).toArray 121) = w1 at *
          go_wp2
          go_ret
          exact ⟨rfl, HB.out⟩
      · skip
        have HX := Lib.hid (show okV x = false by rw [okV_eq, decide_eq_true c1, Bool.true_and, decide_eq_true c2, Bool.true_and, decide_eq_false c3, Bool.false_and])
        rw [HX.out]
        have t1a : x.nm.toList.isEmpty = false := by rw [ByteArray.toList_eq, List.isEmpty_eq_false_iff]; intro h; exact c1 (show x.nm.data.size = 0 by rw [← Array.length_toList, h]; rfl)
        have t1b : ¬ x.nm.toList = [] := by intro h; rw [h] at t1a; cases t1a
        have t2 : decide ((x.nm.size : Int) ≤ 16) = true := by rw [decide_eq_true_iff]; omega
        have t3 : decide ((x.fr.size : Int) ≤ 16) = false := by rw [decide_eq_false_iff_not]; omega
        clear c1 c2 c3
        go_enter Tryz.func140, Tryz.ntmps140
        have k0 : (w.alloc (.cells (encV x).toArray 121)).cell? ⟨w.heap.size, 0, none⟩ = some (.string x.nm) := cell_of_row _ _ 0 _ _ _ HR.out
        have k1 : (w.alloc (.cells (encV x).toArray 121)).cell? ⟨w.heap.size, 1, none⟩ = some (.int .u8 x.kd) := cell_of_row _ _ 1 _ _ _ HR.out
        have k2 : (w.alloc (.cells (encV x).toArray 121)).cell? ⟨w.heap.size, 2, none⟩ = some (.string x.fr) := cell_of_row _ _ 2 _ _ _ HR.out
        generalize hW : w.alloc (.cells (encV x).toArray 121) = w1 at *
        go_wp2
        go_ret
        exact ⟨rfl, HB.out⟩
    · skip
      have HX := Lib.hid (show okV x = false by rw [okV_eq, decide_eq_true c1, Bool.true_and, decide_eq_false c2, Bool.false_and])
      rw [HX.out]
      have t1a : x.nm.toList.isEmpty = false := by rw [ByteArray.toList_eq, List.isEmpty_eq_false_iff]; intro h; exact c1 (show x.nm.data.size = 0 by rw [← Array.length_toList, h]; rfl)
      have t1b : ¬ x.nm.toList = [] := by intro h; rw [h] at t1a; cases t1a
      have t2 : decide ((x.nm.size : Int) ≤ 16) = false := by rw [decide_eq_false_iff_not]; omega
      clear c1 c2
      go_enter Tryz.func140, Tryz.ntmps140
      have k0 : (w.alloc (.cells (encV x).toArray 121)).cell? ⟨w.heap.size, 0, none⟩ = some (.string x.nm) := cell_of_row _ _ 0 _ _ _ HR.out
      have k1 : (w.alloc (.cells (encV x).toArray 121)).cell? ⟨w.heap.size, 1, none⟩ = some (.int .u8 x.kd) := cell_of_row _ _ 1 _ _ _ HR.out
      have k2 : (w.alloc (.cells (encV x).toArray 121)).cell? ⟨w.heap.size, 2, none⟩ = some (.string x.fr) := cell_of_row _ _ 2 _ _ _ HR.out
      generalize hW : w.alloc (.cells (encV x).toArray 121) = w1 at *
      go_wp2
      go_ret
      exact ⟨rfl, HB.out⟩
  · skip
    have HX := Lib.hid (show okV x = false by rw [okV_eq, decide_eq_false c1, Bool.false_and])
    rw [HX.out]
    have t1a : x.nm.toList = [] := by rw [ByteArray.toList_eq]; exact List.eq_nil_of_length_eq_zero (by rw [Array.length_toList]; exact Decidable.not_not.1 c1)
    have t1b : x.nm.toList.isEmpty = true := by rw [t1a]; rfl
    clear c1
    go_enter Tryz.func140, Tryz.ntmps140
    have k0 : (w.alloc (.cells (encV x).toArray 121)).cell? ⟨w.heap.size, 0, none⟩ = some (.string x.nm) := cell_of_row _ _ 0 _ _ _ HR.out
    have k1 : (w.alloc (.cells (encV x).toArray 121)).cell? ⟨w.heap.size, 1, none⟩ = some (.int .u8 x.kd) := cell_of_row _ _ 1 _ _ _ HR.out
    have k2 : (w.alloc (.cells (encV x).toArray 121)).cell? ⟨w.heap.size, 2, none⟩ = some (.string x.fr) := cell_of_row _ _ 2 _ _ _ HR.out
    generalize hW : w.alloc (.cells (encV x).toArray 121) = w1 at *
    go_wp2
    go_ret
    exact ⟨rfl, HB.out⟩
end Go.Proofs.YtlpejbbmemhloaaGreatDoor.Nd
