/- The answers that cambiumtop's begins asks for are given. -/
import Derived.Test.YtjkmfonngbendaaGreatDoorJtH
import Derived.Test.YtjkmfonngbendaaGreatDoorSumK
namespace Go.Proofs.YtjkmfonngbendaaGreatDoor.Be
set_option linter.unusedVariables false
open Go.ChangeShapes Go.WideShapes Go.ChangeAt Go.RowKit
open Pk (crc psum_any u8s u8s_length)
open Hk (Row kc first hash_length sum_lit row_below abc_facts abc_data)
theorem run_index_at {C : Array Value} {l : List UInt8} (hC : C = (u8s l).toArray) (hl : l.length = 32) (i : Nat) (b : UInt8) (hb : l[i]? = some b) (w : World) : (Instr.index 54 (.agg C) (.int .i64 i)).run Tryz.prog w = .ok (.int .u8 b.toNat) w := by
  have hi : i < 32 := by have := (List.getElem?_eq_some_iff.1 hb).1; omega
  have h0 : C[i]? = some (.int .u8 (b.toNat : Int)) := by rw [hC]; simp [u8s, hb]
  have hz : C.size = 32 := by rw [hC, List.size_toArray, u8s_length, hl]
  simp [Instr.index, run_underlying Tryz.underlying54, asIntOf, go_sem, hz, hi]
  exact Option.some.inj ((Array.getElem?_eq_getElem (by omega)).symm.trans h0)
set_option maxRecDepth 100000 in
theorem crc_digits : crc [49, 50, 51, 52, 53, 54, 55, 56, 57] = 806403967#32 := by decide +kernel
variable {tK tS : TypeId}
set_option maxRecDepth 100000 in
set_option maxHeartbeats 1000000 in
theorem begins_any (w : World) (hR : Row w 1 tK kc) (hR0 : Row w 0 tS first.list) :
    Calls Tryz.prog 11 #[] w fun e w' => e = .returned (.bool true) ∧ Below w.heap.size w w' := by
  have RK := Lib.hid hR
  have RF := Lib.hid hR0
  clear hR hR0
  have hc : ∀ w : World, Calls Tryz.prog 32 #[.string ⟨#[49, 50, 51, 52, 53, 54, 55, 56, 57]⟩] w fun e w' => e = .returned (.int .u32 806403967) ∧ Below w.heap.size w w' := by
    intro w
    have := psum_any ⟨#[49, 50, 51, 52, 53, 54, 55, 56, 57]⟩ w (by decide)
    rw [show crc (⟨#[49, 50, 51, 52, 53, 54, 55, 56, 57]⟩ : ByteArray).data.toList = 806403967#32 from crc_digits] at this
    exact this
  have HC := Lib.hid hc
  clear hc
  go_enter Tryz.func11, Tryz.ntmps11
  go_wp2_with fail
  (go_at_call 32; refine (HC.out _).mono ?_; rintro e w1 ⟨rfl, hb1⟩)
  have B1 := Lib.hid hb1
  clear hb1
  go_wp2_with fail
  (go_at_call 33; (with_reducible refine (sum_lit _ (by decide) _ (row_below RK.out B1.out RK.out.lt) (row_below RF.out B1.out RF.out.lt)).mono ?_); rintro e w2 ⟨C, hC, rfl, hb2⟩)
  rw [abc_data] at hC
  have hix := run_index_at hC (hash_length _) 0 186 abc_facts.1
  have HCC := Lib.hid hC
  have B2 := Lib.hid (B1.out.trans (hb2.mono B1.out.size))
  clear hC hb2
  have hix0 : ∀ w, (Instr.index 54 (.agg C) (.int .i64 0)).run Tryz.prog w = .ok (.int .u8 186) w := hix
  clear hix
  go_wp2
  go_ret
  exact ⟨rfl, B2.out⟩
end Go.Proofs.YtjkmfonngbendaaGreatDoor.Be
