/- Contracts of the small functions of package hash, and of the document's own ones: words turned, spread, mixed, chosen. -/
import Derived.Test.YtjkmfonngbendaaGreatDoorWord
import Derived.Test.YtjkmfonngbendaaGreatDoorRows
import Derived.WalkKit
import Derived.ProofKit
import Derived.Handy
import Derived.BigQuiet
import Derived.Deep.QuietTactic
import Derived.RegionTactic
import Derived.Outline
import Derived.WalkLawsBesides
import Derived.WalkSpells
import Derived.Lib.Hide
import Derived.Laws.IdiomStrings
namespace Go.Proofs.YtjkmfonngbendaaGreatDoor.Hk
set_option linter.unusedVariables false
open Go.ChangeShapes Go.WideShapes Go.ChangeAt Go.RowKit
theorem ret_u32 {a b : Int} (h : a = b) : Ending.returned (.int .u32 a) = .returned (.int .u32 b) := by rw [h]
theorem rotate_any (x : BitVec 32) (k : Nat) (hk : 1 ≤ k) (hk2 : k ≤ 31) (w : World) :
    Calls Tryz.prog 204 #[.int .u32 (vN x), .int .i64 (-(k : Int))] w fun e w' => e = .returned (.int .u32 (vN (rr x k))) ∧ w = w' := by
  have h0 := vN_lo x
  have h1 := vN_hi x
  have hn := neg_count k hk hk2
  obtain ⟨s, hs⟩ : ∃ s, s = 32 - k := ⟨_, rfl⟩
  rw [← hs] at hn
  have s1 : 1 ≤ s := by omega
  have s2 : s ≤ 31 := by omega
  have HS := Lib.hid hs
  clear hs
  go_enter Tryz.func204, Tryz.ntmps204
  go_wp2
  go_ret
  refine ⟨ret_u32 ?_, rfl⟩
  rw [vN_shl, vN_shr, vN_or, BitVec.or_comm, rr, show 32 - s = k by have := HS.out; omega, HS.out]
theorem turned_any (x : BitVec 32) (k : Nat) (hk : 1 ≤ k) (hk2 : k ≤ 31) (w : World) :
    Calls Tryz.prog 190 #[.int .u32 (vN x), .int .i64 k] w fun e w' => e = .returned (.int .u32 (vN (rr x k))) ∧ w = w' := by
  go_enter Tryz.func190, Tryz.ntmps190
  go_wp2_with (first | (go_at_call 204; refine (rotate_any x k hk hk2 _).mono ?_; rintro e w' ⟨rfl, rfl⟩))
  go_ret
  exact ⟨rfl, rfl⟩
theorem choice_any (x y z : BitVec 32) (w : World) :
    Calls Tryz.prog 156 #[.int .u32 (vN x), .int .u32 (vN y), .int .u32 (vN z)] w fun e w' => e = .returned (.int .u32 (vN (cho x y z))) ∧ w = w' := by
  have h0 := vN_lo x
  have h1 := vN_hi x
  go_enter Tryz.func156, Tryz.ntmps156
  go_wp2
  go_ret
  refine ⟨ret_u32 ?_, rfl⟩
  rw [vN_inv, vN_and, vN_and, vN_or, cho]
theorem maj_any (x y z : BitVec 32) (w : World) :
    Calls Tryz.prog 158 #[.int .u32 (vN x), .int .u32 (vN y), .int .u32 (vN z)] w fun e w' => e = .returned (.int .u32 (vN (maj x y z))) ∧ w = w' := by
  go_enter Tryz.func158, Tryz.ntmps158
  go_wp2
  go_ret
  refine ⟨ret_u32 ?_, rfl⟩
  rw [vN_and, vN_and, vN_and, vN_or, vN_or, maj]
theorem mix0_any (x : BitVec 32) (w : World) :
    Calls Tryz.prog 157 #[.int .u32 (vN x)] w fun e w' => e = .returned (.int .u32 (vN (mx0 x))) ∧ w = w' := by
  have h0 := vN_lo x
  have h1 := vN_hi x
  have X : ∀ a b : BitVec 32, bits BinOp.xor IntKind.u32 (vN a) (vN b) = vN (a ^^^ b) := vN_xor
  have C := Lib.hid (turned_any x)
  go_enter Tryz.func157, Tryz.ntmps157
  go_wp2_with fail
  (go_at_call 190; refine (C.out 2 (by omega) (by omega) _).mono ?_; rintro e w' ⟨rfl, rfl⟩)
  go_wp2_with fail
  (go_at_call 190; refine (C.out 13 (by omega) (by omega) _).mono ?_; rintro e w' ⟨rfl, rfl⟩)
  go_wp2_with fail
  (go_at_call 190; refine (C.out 22 (by omega) (by omega) _).mono ?_; rintro e w' ⟨rfl, rfl⟩)
  go_wp2
  go_ret
  exact ⟨by rfl, rfl⟩
theorem mix1_any (x : BitVec 32) (w : World) :
    Calls Tryz.prog 155 #[.int .u32 (vN x)] w fun e w' => e = .returned (.int .u32 (vN (mx1 x))) ∧ w = w' := by
  have h0 := vN_lo x
  have h1 := vN_hi x
  have X : ∀ a b : BitVec 32, bits BinOp.xor IntKind.u32 (vN a) (vN b) = vN (a ^^^ b) := vN_xor
  have C := Lib.hid (turned_any x)
  go_enter Tryz.func155, Tryz.ntmps155
  go_wp2_with fail
  (go_at_call 190; refine (C.out 6 (by omega) (by omega) _).mono ?_; rintro e w' ⟨rfl, rfl⟩)
  go_wp2_with fail
  (go_at_call 190; refine (C.out 11 (by omega) (by omega) _).mono ?_; rintro e w' ⟨rfl, rfl⟩)
  go_wp2_with fail
  (go_at_call 190; refine (C.out 25 (by omega) (by omega) _).mono ?_; rintro e w' ⟨rfl, rfl⟩)
  go_wp2
  go_ret
  exact ⟨by rfl, rfl⟩
theorem spread0_any (x : BitVec 32) (w : World) :
    Calls Tryz.prog 160 #[.int .u32 (vN x)] w fun e w' => e = .returned (.int .u32 (vN (sp0 x))) ∧ w = w' := by
  have h0 := vN_lo x
  have h1 := vN_hi x
  have X : ∀ a b : BitVec 32, bits BinOp.xor IntKind.u32 (vN a) (vN b) = vN (a ^^^ b) := vN_xor
  have S : vN x / (8 : Int) = vN (x >>> 3) := by have := vN_shr x 3; simpa using this
  have C := Lib.hid (turned_any x)
  go_enter Tryz.func160, Tryz.ntmps160
  go_wp2_with fail
  (go_at_call 190; refine (C.out 7 (by omega) (by omega) _).mono ?_; rintro e w' ⟨rfl, rfl⟩)
  go_wp2_with fail
  (go_at_call 190; refine (C.out 18 (by omega) (by omega) _).mono ?_; rintro e w' ⟨rfl, rfl⟩)
  go_wp2
  go_ret
  exact ⟨by rfl, rfl⟩
theorem spread1_any (x : BitVec 32) (w : World) :
    Calls Tryz.prog 159 #[.int .u32 (vN x)] w fun e w' => e = .returned (.int .u32 (vN (sp1 x))) ∧ w = w' := by
  have h0 := vN_lo x
  have h1 := vN_hi x
  have X : ∀ a b : BitVec 32, bits BinOp.xor IntKind.u32 (vN a) (vN b) = vN (a ^^^ b) := vN_xor
  have S : vN x / (1024 : Int) = vN (x >>> 10) := by have := vN_shr x 10; simpa using this
  have C := Lib.hid (turned_any x)
  go_enter Tryz.func159, Tryz.ntmps159
  go_wp2_with fail
  (go_at_call 190; refine (C.out 17 (by omega) (by omega) _).mono ?_; rintro e w' ⟨rfl, rfl⟩)
  go_wp2_with fail
  (go_at_call 190; refine (C.out 19 (by omega) (by omega) _).mono ?_; rintro e w' ⟨rfl, rfl⟩)
  go_wp2
  go_ret
  exact ⟨by rfl, rfl⟩
end Go.Proofs.YtjkmfonngbendaaGreatDoor.Hk
