/- An argument that is a hash, opened: 32 bytes. -/
import Derived.Test.YteelickbdigpkaaHexL
import Derived.OpenShut
namespace Go.Proofs.Yteelickbdigpkaa.Hc
set_option linter.unusedVariables false
open Go.ChangeShapes Go.WideShapes Go.ChangeAt Go.RowKit
open Pk (u8s u8s_length u8s_set u8s_get)
theorem okWide_array {P : Program} {w : World} {r : Reach} {base : Nat} {t e : TypeId} {v : Value} {n : Nat} (ht : P.underlying t = some (.array n e)) (h : Value.okWide P w r base t v) : ∃ cs, v = .agg cs := by
  unfold Value.okWide at h
  rw [ht] at h
  cases v <;> simp_all
theorem byte_of_wf {k : Int} (h : (Lit.int .u8 k).wf = true) : k = ((UInt8.ofNat k.toNat).toNat : Int) := by
  simp [Lit.wf, IntKind.min, IntKind.max, IntKind.bits, IntKind.signed] at h
  rw [UInt8.toNat_ofNat']
  omega
def byteOf : Option Value → UInt8
  | some (Value.int _ k) => UInt8.ofNat k.toNat
  | _ => 0
theorem cT : Try.prog.cellsOf 22 = 32 := by kernel_rfl
theorem cE : Try.prog.cellsOf 5 = 1 := by kernel_rfl
theorem open_h32 {H : Type} {enc : TypeId × Value → H} {w : World} {base b0 : Nat} {spare : Nat → Bool} {held : Bool} {r : Reach} {v : Value} {d : DataW H} {p : List MemPlace}
    (hv : Value.okWide Try.prog w r b0 22 v) (h : DataW.Trod enc Try.prog w base spare held 22 v d p) : ∃ l : List UInt8, l.length = 32 ∧ v = .agg (u8s l).toArray := by
  obtain ⟨cs, rfl⟩ := okWide_array Try.underlying22 hv
  obtain ⟨fuel, hf⟩ := h
  obtain ⟨xs, m, _, hx, hlen, hn, hel⟩ := DataW.trod_array Try.underlying22 hf
  rw [cT] at hlen
  have hlen' : cs.size = 32 := by simpa [Value.cells] using hlen
  have each : ∀ i, i < 32 → ∃ k : Int, cs[i]? = some (.int .u8 k) ∧ (Lit.int .u8 k).wf = true := by
    intro i hi
    have hd := hel i hi
    rw [cE, Nat.mul_one, List.getElem?_eq_getElem (by omega)] at hd
    obtain ⟨k, e1, e2, e3⟩ := DataW.trod_int Try.underlying5 hd
    refine ⟨k, ?_, ?_⟩
    · have := congrArg (fun z => z[0]?) e1
      simpa [Value.cells] using this
    · first | exact e3 | exact e3.1
  refine ⟨(List.range 32).map fun i => byteOf cs[i]?, by simp, ?_⟩
  congr 1
  apply Array.ext_getElem?
  intro i
  by_cases hi : i < 32
  · obtain ⟨k, hk, hw⟩ := each i hi
    rw [hk]
    simp only [u8s, List.map_map, List.getElem?_toArray, List.getElem?_map, List.getElem?_range hi, Option.map_some, Function.comp]
    rw [hk]
    show some (Value.int .u8 k) = some (Value.int .u8 ((UInt8.ofNat k.toNat).toNat : Int))
    rw [← byte_of_wf hw]
  · rw [Array.getElem?_eq_none (by omega), Array.getElem?_eq_none (by simp [u8s]; omega)]
end Go.Proofs.Yteelickbdigpkaa.Hc
