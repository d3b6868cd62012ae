/- Contracts of package super: Decode. -/
import Derived.Test.YtnfcgifkghegjaaGreatDoorSuD
namespace Go.Proofs.YtnfcgifkghegjaaGreatDoor.Sp
set_option linter.unusedVariables false
set_option linter.unusedSimpArgs false
open Go.ChangeShapes Go.WideShapes Go.ChangeAt Go.RowKit
open Nd Rg
open BigFrame
open Pk (be num be_length u8s u8s_length)
theorem results_row2 {P : Program} {fn : Func} {p u : Tmp} {ty : TypeId} (h : fn.results = #[.cell p ty, .tmp u]) (tmps : Array Value) (w : World) (g : Nat) (t : TypeId) (cs : Array Value) (fr : Nat × Nat) (d : TypeDesc)
    (hp : tmps.getD p undef = .pointer (some ⟨g, 0, none⟩)) (hg : w.heap[g]? = some (.cells cs t fr))
    (hu : P.underlying ty = some d) (hd : (match d with | .struct _ | .array _ _ => true | _ => false) = true) (hi : (P.info? ty).map (·.size) = some cs.size) (r : Value) (hr : tmps.getD u undef = r) :
    (results fn tmps).run P w = .ok (.tuple #[.agg cs, r]) w := by
  rw [results_cell_tmp h, hp, hr]
  simp [asAddr, run_loadVar_row w g t ty cs fr d hg hu hd hi, Result.andThen]

theorem ne_strS {x y : ByteArray} (h : x ≠ y) : (x.toList != y.toList) = true ∧ (x.toList == y.toList) = false := by
  have e : (x.toList == y.toList) = false := by
    rw [beq_eq_false_iff_ne, ByteArray.toList_eq, ByteArray.toList_eq]
    exact fun e => h (ByteArray.ext (Array.toList_inj.1 e))
  exact ⟨by rw [bne, e]; rfl, e⟩
def zSu : Su := ⟨0, 0, 0, List.replicate 32 0⟩
theorem zSu_row : (esS zSu).toArray = zS := by kernel_rfl
theorem zS_one : zS.all (·.oneCell') = true := by simp [Value.oneCell']
def deV (d : ByteArray) : Su := if okS (tkS d) = true ∧ enS (tkS d) = d then tkS d else zSu
def deX (d : ByteArray) : Int := if okS (tkS d) = true ∧ enS (tkS d) = d then 0 else 9
theorem tkS_lim (d : ByteArray) : (tkS d).lim := by
  obtain ⟨r0, r1, r2, r3, n1, n2, n3, h0, z0, a1, b1, z1, a2, b2, z2, a3, b3, z3, l1, l2, l3, ht⟩ := tk_parts d
  rw [ht]
  exact ⟨l1, l2, l3, by show (r3.data.toList.take 32).length = 32; rw [List.length_take, szl]; omega⟩
theorem de_no {d : ByteArray} (h : ¬ (okS (tkS d) = true ∧ enS (tkS d) = d)) : vS (deV d) = .agg zS ∧ deX d = 9 := by
  unfold deV deX vS
  rw [if_neg h, if_neg h, zSu_row]
  exact ⟨rfl, rfl⟩
theorem de_yes {d : ByteArray} (h : okS (tkS d) = true ∧ enS (tkS d) = d) : deV d = tkS d ∧ deX d = 0 := by
  unfold deV deX
  rw [if_pos h, if_pos h]
  exact ⟨rfl, rfl⟩
theorem deV_lim (d : ByteArray) : (deV d).lim := by
  unfold deV
  split
  · exact tkS_lim d
  · exact ⟨by decide, by decide, by decide, by decide⟩
end Go.Proofs.YtnfcgifkghegjaaGreatDoor.Sp
