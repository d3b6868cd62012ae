/- Contracts of package node's small functions: numbers and texts as bytes, numbers of blocks, counts. -/
import Derived.Test.YtlpejbbmemhloaaGreatDoorNdN
import Derived.Test.YtlpejbbmemhloaaGreatDoorJpB
namespace Go.Proofs.YtlpejbbmemhloaaGreatDoor.Nd
set_option linter.unusedVariables false
open Go.ChangeShapes Go.WideShapes Go.ChangeAt Go.RowKit
open Pk (be num be_length nB nE numOk number_any)
theorem rightNum_any (n : Nat) (w : World) : Calls Tryz.prog 139 #[.int .u32 n] w fun e w' => e = .returned (.bool (okNum n)) ∧ w = w' := by
  by_cases h1 : 2 ≤ n
  · have q1 : decide ((2 : Int) ≤ (n : Int)) = true := by rw [decide_eq_true_iff]; omega
    have HF := Lib.hid (show okNum n = decide (n < 65536) by unfold okNum; rw [decide_eq_true h1, Bool.true_and])
    by_cases h2 : n < 65536
    · have q2 : decide ((n : Int) < 65536) = true := by rw [decide_eq_true_iff]; omega
      have HG := Lib.hid (decide_eq_true h2)
      clear h1 h2
      go_enter Tryz.func139, Tryz.ntmps139
      go_wp2
      go_ret
      exact ⟨by rw [HF.out, HG.out]; rfl, rfl⟩
    · have q2 : decide ((n : Int) < 65536) = false := by rw [decide_eq_false_iff_not]; omega
      have HG := Lib.hid (decide_eq_false h2)
      clear h1 h2
      go_enter Tryz.func139, Tryz.ntmps139
      go_wp2
      go_ret
      exact ⟨by rw [HF.out, HG.out]; rfl, rfl⟩
  · have q1 : decide ((2 : Int) ≤ (n : Int)) = false := by rw [decide_eq_false_iff_not]; omega
    have HF := Lib.hid (show okNum n = false by unfold okNum; rw [decide_eq_false h1, Bool.false_and])
    clear h1
    go_enter Tryz.func139, Tryz.ntmps139
    go_wp2
    go_ret
    exact ⟨by rw [HF.out]; rfl, rfl⟩
theorem rightCount_any (n : Nat) (w : World) : Calls Tryz.prog 105 #[.int .i64 n] w fun e w' => e = .returned (.bool (okCount n)) ∧ w = w' := by
  by_cases h1 : 1 ≤ n
  · have q1 : decide ((1 : Int) ≤ (n : Int)) = true := by rw [decide_eq_true_iff]; omega
    have HF := Lib.hid (show okCount n = decide (n ≤ 255) by unfold okCount; rw [decide_eq_true h1, Bool.true_and])
    by_cases h2 : n ≤ 255
    · have q2 : decide ((n : Int) ≤ 255) = true := by rw [decide_eq_true_iff]; omega
      have HG := Lib.hid (decide_eq_true h2)
      clear h1 h2
      go_enter Tryz.func105, Tryz.ntmps105
      go_wp2
      go_ret
      exact ⟨by rw [HF.out, HG.out]; rfl, rfl⟩
    · have q2 : decide ((n : Int) ≤ 255) = false := by rw [decide_eq_false_iff_not]; omega
      have HG := Lib.hid (decide_eq_false h2)
      clear h1 h2
      go_enter Tryz.func105, Tryz.ntmps105
      go_wp2
      go_ret
      exact ⟨by rw [HF.out, HG.out]; rfl, rfl⟩
  · have q1 : decide ((1 : Int) ≤ (n : Int)) = false := by rw [decide_eq_false_iff_not]; omega
    have HF := Lib.hid (show okCount n = false by unfold okCount; rw [decide_eq_false h1, Bool.false_and])
    clear h1
    go_enter Tryz.func105, Tryz.ntmps105
    go_wp2
    go_ret
    exact ⟨by rw [HF.out]; rfl, rfl⟩
/-- a number's bytes of a width; none, if it is too great -/
theorem number_at (n : Nat) (k : Int) (w : World) (h0 : n < 18446744073709551616) :
    Calls Tryz.prog 85 #[.int .u64 n, .int .i64 k] w fun e w' => e = .returned (.string (nB n k)) ∧ Below w.heap.size w w' := by
  go_enter Tryz.func85, Tryz.ntmps85
  go_wp2_with (go_at_call 113; refine (number_any n k _ h0).mono ?_; rintro e w' ⟨rfl, hbel⟩)
  go_ret
  exact ⟨rfl, hbel⟩
theorem nB_be {n k : Nat} (h1 : 1 ≤ k) (h2 : k ≤ 8) (h : n < 256 ^ k) : nB n k = bs (be k n) := by
  unfold nB
  rw [if_pos (by unfold numOk; rw [decide_eq_true_iff, Int.toNat_natCast]; exact ⟨by omega, by omega, h⟩), Int.toNat_natCast]
  rfl
theorem number_be (n k : Nat) (w : World) (h1 : 1 ≤ k) (h2 : k ≤ 8) (h : n < 256 ^ k) :
    Calls Tryz.prog 85 #[.int .u64 n, .int .i64 k] w fun e w' => e = .returned (.string (bs (be k n))) ∧ Below w.heap.size w w' := by
  have h0 : n < 18446744073709551616 := Nat.lt_of_lt_of_le h (Nat.pow_le_pow_right (by omega) h2)
  rw [← nB_be h1 h2 h]
  exact number_at n k w h0
theorem bs_size (l : List UInt8) : (bs l).size = l.length := by show l.toArray.size = _; rw [List.size_toArray]
theorem bs_app (a b : List UInt8) : bs a ++ bs b = bs (a ++ b) := by
  apply ByteArray.ext
  simp [bs]
/-- a text behind its length -/
theorem text_at (t : ByteArray) (w : World) (h : t.size < 256) :
    Calls Tryz.prog 86 #[.string t] w fun e w' => e = .returned (.string (bs (be 1 t.data.toList.length ++ t.data.toList))) ∧ Below w.heap.size w w' := by
  have he : bs (be 1 t.data.toList.length ++ t.data.toList) = bs (be 1 t.size) ++ t := by
    rw [← bs_app, data_bs]; rfl
  rw [he]
  have HN := Lib.hid (fun w => number_be t.size 1 w (by omega) (by omega) (by omega))
  have hz : (bs (be 1 t.size)).size ≤ 1 := by rw [bs_size, be_length]; omega
  clear he
  go_enter Tryz.func86, Tryz.ntmps86
  go_wp2_with (go_at_call 85; refine (HN.out _).mono ?_; rintro e w' ⟨rfl, hbel⟩)
  go_ret
  exact ⟨rfl, hbel⟩
end Go.Proofs.YtlpejbbmemhloaaGreatDoor.Nd
