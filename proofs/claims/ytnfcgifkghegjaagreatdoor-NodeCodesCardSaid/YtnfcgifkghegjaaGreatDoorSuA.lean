/- Contracts of package super: numbers, Slot, Check. -/
import Derived.Test.YtnfcgifkghegjaaGreatDoorSuM
import Derived.Test.YtnfcgifkghegjaaGreatDoorNdS
import Derived.Test.YtnfcgifkghegjaaGreatDoorNdB
import Derived.Test.YtnfcgifkghegjaaGreatDoorLs
import Derived.Test.YtnfcgifkghegjaaGreatDoorRgG
namespace Go.Proofs.YtnfcgifkghegjaaGreatDoor.Sp
set_option linter.unusedVariables false
set_option linter.unusedSimpArgs false
open Go.ChangeShapes Go.WideShapes Go.ChangeAt Go.RowKit
open Nd Rg
open BigFrame
open Pk (be num be_length nB nE numOk number_any u8s u8s_length)
/-- a superblock as a value -/
def esS (s : Su) : List Value := .int .u32 s.Z :: .int .u64 s.G :: .int .u32 s.T :: u8s s.hs
def vS (s : Su) : Value := .agg (esS s).toArray
theorem esS_len {s : Su} (h : s.hs.length = 32) : (esS s).length = 35 := by unfold esS; rw [List.length_cons, List.length_cons, List.length_cons, u8s_length, h]
theorem esS_one (s : Su) : ∀ u ∈ esS s, u.oneCell' = true := by
  intro u hu
  unfold esS at hu
  rcases List.mem_cons.1 hu with rfl | hu
  · rfl
  · rcases List.mem_cons.1 hu with rfl | hu
    · rfl
    · rcases List.mem_cons.1 hu with rfl | hu
      · rfl
      · exact u8s_cell _ u hu
theorem esS_0 (s : Su) : (esS s).toArray[0]? = some (.int .u32 s.Z) := by simp [esS]
theorem esS_1 (s : Su) : (esS s).toArray[1]? = some (.int .u64 s.G) := by simp [esS]
theorem esS_2 (s : Su) : (esS s).toArray[2]? = some (.int .u32 s.T) := by simp [esS]
/-- the bytes of an array's cells, read as a text -/
theorem conv_hash {w' : World} {q o : Nat} {l : List UInt8} (h : l.length = 32) (hr : w'.rangeAt q o (u8s l)) :
    (convert 70 9 (.slice (some ⟨q, o, none⟩) 32 32)).run Tryz.prog w' = .ok (.string (bs l)) w' := by
  have := run_convert_bytes_back (P := Tryz.prog) w' 70 9 5 ⟨q, o, none⟩ 32 l Tryz.underlying70 Tryz.underlying5 Tryz.underlying9 (fun j hj => by
    rw [Ar.add_plain]
    exact hr j _ (by unfold u8s; rw [List.getElem?_map, List.getElem?_eq_getElem hj]; rfl))
  rw [h] at this
  exact this
end Go.Proofs.YtnfcgifkghegjaaGreatDoor.Sp
