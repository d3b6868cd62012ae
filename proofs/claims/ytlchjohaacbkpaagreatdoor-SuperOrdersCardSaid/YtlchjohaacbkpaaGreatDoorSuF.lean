/- '==' of two superblocks. -/
import Derived.Test.YtlchjohaacbkpaaGreatDoorSuA
import Derived.Test.YtlchjohaacbkpaaGreatDoorNdL
namespace Go.Proofs.YtlchjohaacbkpaaGreatDoor.Sp
set_option linter.unusedVariables false
set_option linter.unusedSimpArgs false
open Go.ChangeShapes Go.WideShapes Go.ChangeAt Go.RowKit
open Nd Rg
open BigFrame
open Pk (u8s u8s_length)
def eqS (a b : Su) : Bool := decide (a.Z = b.Z) && (decide (a.G = b.G) && (decide (a.T = b.T) && decide (a.hs = b.hs)))
theorem eqS_iff (a b : Su) : eqS a b = true ↔ a = b := by
  obtain ⟨a1, a2, a3, a4⟩ := a; obtain ⟨b1, b2, b3, b4⟩ := b
  simp [eqS]
theorem suFields : (Tryz.prog.fieldsOf 44).toList.map (fun f => (f.name, f.type, f.offset)) = [("Size", 39, 0), ("Gen", 41, 1), ("Table", 39, 2), ("Hash", 42, 3)] := by kernel_rfl
set_option maxRecDepth 100000 in
theorem eq_super (x y : Su) (hx : x.hs.length = 32) (hy : y.hs.length = 32) (w : World) : (Op.equalIn 10000 44 (vS x) (vS y)).run Tryz.prog w = .ok (eqS x y) w := by
  unfold vS
  rw [run_equalIn_struct (P := Tryz.prog) w 9999 44 _ _ (by kernel_rfl) (by kernel_rfl)]
  have hf := suFields
  generalize (Tryz.prog.fieldsOf 44).toList = fs at *
  have hlf : fs.length = 4 := by have := congrArg List.length hf; simpa using this
  match fs, hlf, hf with
  | [f0, f1, f2, f3], _, hf =>
    simp only [List.map_cons, List.map_nil, List.cons.injEq, and_true] at hf
    obtain ⟨h0, h1, h2, h3⟩ := hf
    rw [eqF_cons (q := decide (x.Z = y.Z)) h0 (by decide) (run_part_plain (P := Tryz.prog) w plain32 (v := .int .u32 (x.Z : Int)) rfl) (run_part_plain (P := Tryz.prog) w plain32 (v := .int .u32 (y.Z : Int)) rfl) (by rw [run_equalIn_int (P := Tryz.prog) w 9998 39 .u32 .u32 (x.Z : Int) (y.Z : Int) Tryz.underlying39, int_same])]
    refine if_ok _ _ _ _ ?_
    rw [eqF_cons (q := decide (x.G = y.G)) h1 (by decide) (run_part_plain (P := Tryz.prog) w plain64 (v := .int .u64 (x.G : Int)) rfl) (run_part_plain (P := Tryz.prog) w plain64 (v := .int .u64 (y.G : Int)) rfl) (by rw [run_equalIn_int (P := Tryz.prog) w 9998 41 .u64 .u64 (x.G : Int) (y.G : Int) Tryz.underlying41, int_same])]
    refine if_ok _ _ _ _ ?_
    rw [eqF_cons (q := decide (x.T = y.T)) h2 (by decide) (run_part_plain (P := Tryz.prog) w plain32 (v := .int .u32 (x.T : Int)) rfl) (run_part_plain (P := Tryz.prog) w plain32 (v := .int .u32 (y.T : Int)) rfl) (by rw [run_equalIn_int (P := Tryz.prog) w 9998 39 .u32 .u32 (x.T : Int) (y.T : Int) Tryz.underlying39, int_same])]
    refine if_ok _ _ _ _ ?_
    have e1 := part_arr (esS x).toArray 3 w
    have e2 := part_arr (esS y).toArray 3 w
    rw [show (esS x).toArray.extract 3 (3 + 32) = (u8s x.hs).toArray from extr ([.int .u32 (x.Z : Int), .int .u64 (x.G : Int), .int .u32 (x.T : Int)]) x.hs hx] at e1
    rw [show (esS y).toArray.extract 3 (3 + 32) = (u8s y.hs).toArray from extr ([.int .u32 (y.Z : Int), .int .u64 (y.G : Int), .int .u32 (y.T : Int)]) y.hs hy] at e2
    rw [eqF_cons (q := decide (x.hs = y.hs)) h3 (by decide) e1 e2 (eq_arr_at hx hy 9997 w), eqF_nil]
    cases decide (x.hs = y.hs) <;> rfl
theorem guardS : Tryz.prog.eqGuardType Tryz.prog.depth 44 = false := by kernel_rfl
end Go.Proofs.YtlchjohaacbkpaaGreatDoor.Sp
