/- Two arrays of 32 bytes, held against each other. -/
import Derived.Test.YtlpejbbmemhloaaGreatDoorNdU
import Derived.ChangeKeysEq
namespace Go.Proofs.YtlpejbbmemhloaaGreatDoor.Nd
set_option linter.unusedVariables false
open Go.ChangeShapes Go.WideShapes Go.ChangeAt Go.RowKit
open Pk (u8s u8s_length)
theorem plain8 : Tryz.prog.plainKey 5 = true := by kernel_rfl
theorem info8u : ∃ i, Tryz.prog.info? 5 = some i := Option.isSome_iff_exists.mp (by kernel_rfl)
theorem cells8 : Tryz.prog.cellsOf 5 = 1 := by kernel_rfl
theorem u8s_get? {l : List UInt8} {j : Nat} {b : UInt8} (h : l[j]? = some b) : (u8s l).toArray[j]? = some (.int .u8 (b.toNat : Int)) := by simp [u8s, h]
theorem eqItems_any (d : Nat) (l m : List UInt8) (w : World) : ∀ is : List Nat, (∀ i ∈ is, i < l.length ∧ i < m.length) → (Op.eqItems (d + 1) 5 1 (u8s l).toArray (u8s m).toArray is).run Tryz.prog w = .ok (is.all fun i => l[i]? == m[i]?) w
  | [], _ => by simp [Op.eqItems]
  | i :: is, h => by
    obtain ⟨h1, h2⟩ := h i List.mem_cons_self
    have hx := List.getElem?_eq_getElem h1
    have hy := List.getElem?_eq_getElem h2
    generalize l[i] = x at *
    generalize m[i] = y at *
    have hp := run_part_plain (P := Tryz.prog) w plain8 (show (u8s l).toArray[i * 1]? = some (.int .u8 (x.toNat : Int)) by rw [Nat.mul_one]; exact u8s_get? hx)
    have hq := run_part_plain (P := Tryz.prog) w plain8 (show (u8s m).toArray[i * 1]? = some (.int .u8 (y.toNat : Int)) by rw [Nat.mul_one]; exact u8s_get? hy)
    have he := run_equalIn_int (P := Tryz.prog) w d 5 .u8 .u8 (x.toNat : Int) (y.toNat : Int) Tryz.underlying5
    have ih := eqItems_any d l m w is (fun j hj => h j (List.mem_cons_of_mem _ hj))
    have hb : ((x.toNat : Int) == (y.toNat : Int)) = (some x == some y) := by
      rw [Bool.eq_iff_iff, beq_iff_eq, beq_iff_eq, Option.some_inj, ← UInt8.toNat_inj]; omega
    rw [List.all_cons, hx, hy]
    simp only [Op.eqItems, Sem.run_bind, hp, hq, he, Result.andThen_ok]
    by_cases hxy : x = y
    · subst hxy
      simp [ih]
    · have hne : ((x.toNat : Int) == (y.toNat : Int)) = false := by rw [hb]; simpa using hxy
      simp [hne, hxy]
set_option maxRecDepth 100000 in
theorem eq_arr {l m : List UInt8} (hl : l.length = 32) (hm : m.length = 32) (w : World) : (Op.equalIn 10000 43 (.agg (u8s l).toArray) (.agg (u8s m).toArray)).run Tryz.prog w = .ok (decide (l = m)) w := by
  obtain ⟨i, hi⟩ := info8u
  rw [run_equalIn_array (P := Tryz.prog) w 9999 _ _ Tryz.underlying43 hi, cells8]
  rw [eqItems_any 9998 l m w _ (fun j hj => by have : j < 32 := by simpa using hj
                                               omega)]
  refine congrArg (fun b => Result.ok b w) ?_
  rw [Bool.eq_iff_iff, List.all_eq_true, decide_eq_true_iff]
  constructor
  · intro h
    apply List.ext_getElem? 
    intro j
    by_cases hj : j < 32
    · simpa using h j (by simpa using hj)
    · rw [List.getElem?_eq_none (by omega), List.getElem?_eq_none (by omega)]
  · rintro rfl j _; simp
theorem guard32 : Tryz.prog.eqGuardType Tryz.prog.depth 43 = false := by kernel_rfl
end Go.Proofs.YtlpejbbmemhloaaGreatDoor.Nd
