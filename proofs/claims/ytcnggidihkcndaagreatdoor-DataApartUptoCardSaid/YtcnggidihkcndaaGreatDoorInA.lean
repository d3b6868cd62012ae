/- Contracts of package inode: numbers, what a right inode is, what is told of it. -/
import Derived.Test.YtcnggidihkcndaaGreatDoorOnc
import Derived.Test.YtcnggidihkcndaaGreatDoorPaS
namespace Go.Proofs.YtcnggidihkcndaaGreatDoor.Ino
set_option linter.unusedVariables false
set_option linter.unusedSimpArgs false
open Go.ChangeShapes Go.WideShapes Go.ChangeAt Go.RowKit
open Pk (be num be_length num_be num_lt bs bs_size nB nE tN tR tE uN uOk uT uR uE xB xE number_any take_any)
open Ph (has contains_any tl tl_len nb)
/-- an inode, a key, as values -/
def cI (n : In) : List Value := [.int .u8 n.K, .int .u16 n.M, .int .u32 n.L, .int .u32 n.S, .string n.T]
def vI (n : In) : Value := .agg #[.int .u8 n.K, .int .u16 n.M, .int .u32 n.L, .int .u32 n.S, .string n.T]
def vK (k : Ky) : Value := .agg #[.int .u8 k.K, .int .u32 k.I, .string k.N, .int .u32 k.C]
theorem number_in (n k : Nat) (w : World) (h0 : n < 18446744073709551616) (h1 : 1 ≤ k) (h2 : k ≤ 8) (h : n < 256 ^ k) :
    Calls Tryz.prog 38 #[.int .u64 n, .int .i64 k] w fun e w' => e = .returned (.string (bs (be k n))) ∧ Below w.heap.size w w' := by
  have HC := Lib.hid (number_any n k w h0)
  rw [nB_of h1 h2 h] at HC
  clear h
  go_enter Tryz.func38, Tryz.ntmps38
  go_wp2_with (go_at_call 52; refine HC.out.mono ?_; rintro e w' ⟨rfl, hb⟩)
  go_ret
  exact ⟨rfl, hb⟩
theorem takeNumber_in (s : ByteArray) (k : Int) (w : World) (hs : s.size ≤ maxLen) :
    Calls Tryz.prog 54 #[.string s, .int .i64 k] w fun e w' => e = .returned (.tuple #[.int .u64 (tN s k), .string (tR s k)]) ∧ Below w.heap.size w w' := by
  have HC := Lib.hid (take_any s k w hs)
  go_enter Tryz.func54, Tryz.ntmps54
  go_wp2_with (go_at_call 69; refine HC.out.mono ?_; rintro e w' ⟨rfl, hb⟩)
  go_ret2
  exact ⟨rfl, hb⟩
theorem emp_iff (s : ByteArray) : s.toList.isEmpty = decide (s.size = 0) := by
  rw [Bool.eq_iff_iff, List.isEmpty_iff, decide_eq_true_iff]
  exact ⟨fun h => by rw [← tl_len, h]; rfl, fun h => List.eq_nil_of_length_eq_zero (by rw [tl_len]; exact h)⟩
/-- the walk's own words for 'empty' -/
theorem emp_of {s : ByteArray} {q : Bool} (h : decide (s.size = 0) = q) : s.toList.isEmpty = q ∧ (!s.toList.isEmpty) = !q := by rw [emp_iff, h]; exact ⟨rfl, rfl⟩
theorem emp_yes {s : ByteArray} (h : s.size = 0) : s.toList = [] := List.eq_nil_of_length_eq_zero (by rw [tl_len]; exact h)
theorem emp_no {s : ByteArray} (h : ¬ s.size = 0) : ¬ s.toList = [] := fun e => h (by rw [← tl_len, e]; rfl)
theorem eqz {a b : Nat} {q : Bool} (h : decide (a = b) = q) : ((a : Int) == (b : Int)) = q := by
  rw [← h, Bool.eq_iff_iff, beq_iff_eq, decide_eq_true_iff]; omega
theorem eqz0 {a : Nat} {q : Bool} (h : decide (a = 0) = q) : ((a : Int) == 0) = q := eqz (b := 0) h
theorem eqz1 {a : Nat} {q : Bool} (h : decide (a = 1) = q) : ((a : Int) == 1) = q := eqz (b := 1) h
theorem eqz2 {a : Nat} {q : Bool} (h : decide (a = 2) = q) : ((a : Int) == 2) = q := eqz (b := 2) h
theorem eqz3 {a : Nat} {q : Bool} (h : decide (a = 3) = q) : ((a : Int) == 3) = q := eqz (b := 3) h
theorem eqz4 {a : Nat} {q : Bool} (h : decide (a = 4) = q) : ((a : Int) == 4) = q := eqz (b := 4) h
theorem lez {a b : Nat} {q : Bool} (h : decide (a ≤ b) = q) : decide ((a : Int) ≤ (b : Int)) = q := by
  rw [← h]; exact decide_eq_decide.2 (by omega)
theorem lez1 {a : Nat} {q : Bool} (h : decide (1 ≤ a) = q) : decide ((1 : Int) ≤ (a : Int)) = q := lez (a := 1) h
theorem lezM {a : Nat} {q : Bool} (h : decide (a ≤ 65536) = q) : decide ((a : Int) ≤ 65536) = q := lez (b := 65536) h
/-- which error -/
def chI (n : In) : Int := if okI n then 0 else 4
end Go.Proofs.YtcnggidihkcndaaGreatDoor.Ino
