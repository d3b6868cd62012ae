/- Contracts of package super: what is written of a superblock, Encode. -/
import Derived.Test.YtnfcgifkghegjaaGreatDoorSuA
namespace Go.Proofs.YtnfcgifkghegjaaGreatDoor.Sp
set_option linter.unusedVariables false
set_option linter.unusedSimpArgs false
open Go.ChangeShapes Go.WideShapes Go.ChangeAt Go.RowKit
open Nd Rg
open BigFrame
open Pk (be num be_length u8s u8s_length)
theorem MZ : (⟨#[67, 66]⟩ : ByteArray).size = 2 := rfl
theorem u64_of32 {n : Nat} (h : n < 4294967296) : IntKind.u64.wrap (n : Int) = n := by simp [IntKind.wrap, IntKind.bits, IntKind.signed]; omega
theorem wS_bs (s : Su) : (⟨#[67, 66]⟩ : ByteArray) ++ bs (be 4 s.Z) ++ bs (be 8 s.G) ++ bs (be 4 s.T) ++ bs s.hs = bs (wS s) := by
  rw [show (⟨#[67, 66]⟩ : ByteArray) = bs [67, 66] from rfl, bs_app, bs_app, bs_app, bs_app, wS_eq]
  simp only [List.append_assoc]
end Go.Proofs.YtnfcgifkghegjaaGreatDoor.Sp
