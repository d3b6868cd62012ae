/- Contracts of the document's own SHA-256 (cambiumref02): words, constants, a piece. -/
import Derived.Test.YtglciacjfoimlaaDoorShaE
namespace Go.Proofs.YtglciacjfoimlaaDoor.Hk
set_option linter.unusedVariables false
open Go.ChangeShapes Go.WideShapes Go.ChangeAt Go.RowKit
def kc : List (BitVec 32) := [
  0x428a2f98#32, 0x71374491#32, 0xb5c0fbcf#32, 0xe9b5dba5#32, 0x3956c25b#32, 0x59f111f1#32, 0x923f82a4#32, 0xab1c5ed5#32,
  0xd807aa98#32, 0x12835b01#32, 0x243185be#32, 0x550c7dc3#32, 0x72be5d74#32, 0x80deb1fe#32, 0x9bdc06a7#32, 0xc19bf174#32,
  0xe49b69c1#32, 0xefbe4786#32, 0x0fc19dc6#32, 0x240ca1cc#32, 0x2de92c6f#32, 0x4a7484aa#32, 0x5cb0a9dc#32, 0x76f988da#32,
  0x983e5152#32, 0xa831c66d#32, 0xb00327c8#32, 0xbf597fc7#32, 0xc6e00bf3#32, 0xd5a79147#32, 0x06ca6351#32, 0x14292967#32,
  0x27b70a85#32, 0x2e1b2138#32, 0x4d2c6dfc#32, 0x53380d13#32, 0x650a7354#32, 0x766a0abb#32, 0x81c2c92e#32, 0x92722c85#32,
  0xa2bfe8a1#32, 0xa81a664b#32, 0xc24b8b70#32, 0xc76c51a3#32, 0xd192e819#32, 0xd6990624#32, 0xf40e3585#32, 0x106aa070#32,
  0x19a4c116#32, 0x1e376c08#32, 0x2748774c#32, 0x34b0bcb5#32, 0x391c0cb3#32, 0x4ed8aa4a#32, 0x5b9cca4f#32, 0x682e6ff3#32,
  0x748f82ee#32, 0x78a5636f#32, 0x84c87814#32, 0x8cc70208#32, 0x90befffa#32, 0xa4506ceb#32, 0xbef9a3f7#32, 0xc67178f2#32]
theorem kc_length : kc.length = 64 := rfl
theorem infoKc : (Tryd.prog.info? 64).map (·.size) = some (arr kc).size := by kernel_rfl
theorem sizeKc : (arr (List.replicate 64 0#32)).size = (arr kc).size := by rw [arr_size, arr_size, kc_length, List.length_replicate]
theorem word_any (s : ByteArray) (h : 4 ≤ s.size) (w : World) :
    Calls Tryd.prog 28 #[.string s] w fun e w' => e = .returned (.int .u32 (vN (word4 (s[0]'(by omega)) (s[1]'(by omega)) (s[2]'(by omega)) (s[3]'(by omega))))) ∧ ∃ q, w' = w.drewN q := by
  have j0 : 0 < s.size := by omega
  have j1 : 1 < s.size := by omega
  have j2 : 2 < s.size := by omega
  have j3 : 3 < s.size := by omega
  have HW := Lib.hid (word4_n (s[0]'j0) (s[1]'j1) (s[2]'j2) (s[3]'j3))
  have i0 : (0 : Int) < s.size := by omega
  have i1 : (1 : Int) < s.size := by omega
  have i2 : (2 : Int) < s.size := by omega
  have i3 : (3 : Int) < s.size := by omega
  have b0 := wrap_b
  have b1 := wrap_b8
  have b2 := wrap_b16
  have b3 := wrap_b24
  go_enter Tryd.func28, Tryd.ntmps28
  go_wp2
  go_quiet (fail)
  go_wp2
  go_ret
  exact ⟨ret_u32 HW.out, _, rfl⟩
set_option maxRecDepth 100000 in
set_option maxHeartbeats 1000000 in
theorem constants_any (w : World) :
    Calls Tryd.prog 27 #[] w fun e w' => e = .returned (.agg (arr kc)) ∧ Below w.heap.size w w' := by
  go_enter Tryd.func27, Tryd.ntmps27
  go_wp2_with (first
    | (refine wpList_build rfl _ _ rfl (by kernel_rfl) ?_)
    | (refine wpList_store_row rfl 64 (.tmp 0) (.tmp 1) rfl w.heap.size (arr kc) rfl (by kernel_rfl) 64 (arr (List.replicate 64 0#32)) (heap_alloc_new w _) infoKc sizeKc (arr_one kc) ?_))
  have hg2 := setRow_heap (w.alloc (.cells (arr (List.replicate 64 0#32)) 64)) w.heap.size _ (arr kc) 64 (0, 0) (heap_alloc_new w _)
  exact bodyPost_ret (v := .agg (arr kc)) (results_cell_row rfl _ _ w.heap.size 64 (arr kc) (0, 0) _ rfl hg2 Tryd.underlying64 rfl infoKc) rfl ⟨rfl, below_setRow ((Below.refl _ _).alloc (Nat.le_refl _) _) (Nat.le_refl _) _⟩
end Go.Proofs.YtglciacjfoimlaaDoor.Hk
