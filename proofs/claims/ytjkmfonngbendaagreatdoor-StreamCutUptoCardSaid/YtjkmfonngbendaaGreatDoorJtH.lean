/- A hash by its bytes: what package hash's Sum answers. -/
import Derived.Test.YtjkmfonngbendaaGreatDoorShaF
import Derived.ChangeKeysEq
namespace Go.Proofs.YtjkmfonngbendaaGreatDoor.Hk
set_option linter.unusedVariables false
open Go.ChangeShapes Go.WideShapes Go.ChangeAt Go.RowKit
variable {tK tS : TypeId}
open Pk (be be_length u8s u8s_length u8s_set u8s_get)
def hashOf (l : List UInt8) : List UInt8 := hashB (pieces kc first (l ++ padL l.length) ((l.length + (padL l.length).length) / 64))
set_option maxRecDepth 100000 in
theorem abc_facts : (hashOf [97, 98, 99])[0]? = some 0xba ∧ (hashOf [97, 98, 99])[1]? = some 0x78 ∧ (hashOf [97, 98, 99])[31]? = some 0xad := by decide +kernel
set_option maxRecDepth 100000 in
theorem none_facts : (hashOf [])[0]? = some 0xe3 := by decide +kernel
theorem hash_length (l : List UInt8) : (hashOf l).length = 32 := by unfold hashOf hashB; simp
theorem sum_lit (x : ByteArray) (hx : x.size ≤ 140737488351232) (w : World) (hR : Row w 1 tK kc) (hR0 : Row w 0 tS first.list) :
    Calls Tryz.prog 33 #[.string x] w fun e w' => ∃ C, C = (u8s (hashOf x.data.toList)).toArray ∧ e = .returned (.agg C) ∧ Below w.heap.size w w' :=
  (sum_any kc kc_length first x hx w hR.lt hR0.lt hR hR0).mono fun _ _ h => ⟨_, by unfold hashOf; simp, h.1, h.2⟩
theorem hash_row {C : Array Value} {l : List UInt8} (h : C = (u8s (hashOf l)).toArray) : (Tryz.prog.info? 54).map (·.size) = some C.size ∧ (u8s (List.replicate 32 0)).toArray.size = C.size ∧ C.all (·.oneCell') = true := by
  rw [h]
  exact ⟨infoH (hash_length l), by rw [List.size_toArray, List.size_toArray, u8s_length, u8s_length, hash_length, List.length_replicate], u8s_one _⟩
theorem hash_get {C : Array Value} {l : List UInt8} {j : Nat} {b : UInt8} (h : C = (u8s (hashOf l)).toArray) (hb : (hashOf l)[j]? = some b) : C[j]? = some (.int .u8 (b.toNat : Int)) := by
  rw [h]; simp [u8s, hb]
theorem plain8 : Tryz.prog.plainKey 5 = true := by kernel_rfl
theorem info8u : ∃ i, Tryz.prog.info? 5 = some i := Option.isSome_iff_exists.mp (by kernel_rfl)
theorem cells8 : Tryz.prog.cellsOf 5 = 1 := by kernel_rfl
theorem eqItems_same (d : Nat) (C : Array Value) (hC : ∀ j, j < C.size → ∃ k : Int, C[j]? = some (.int .u8 k)) (w : World) : ∀ is : List Nat, (∀ i ∈ is, i < C.size) → (Op.eqItems (d + 1) 5 1 C C is).run Tryz.prog w = .ok true w
  | [], _ => by simp [Op.eqItems]
  | i :: is, h => by
    obtain ⟨k, hk⟩ := hC i (h i (by simp))
    have hp := run_part_plain (P := Tryz.prog) w plain8 (show C[i * 1]? = some (.int .u8 k) by rw [Nat.mul_one]; exact hk)
    have he := run_equalIn_int (P := Tryz.prog) w d 5 .u8 .u8 k k Tryz.underlying5
    have ih := eqItems_same d C hC w is (fun j hj => h j (by simp [hj]))
    simp only [Op.eqItems, Sem.run_bind, hp, he, Result.andThen_ok, beq_self_eq_true, Bool.not_true, Bool.false_eq_true, if_false, ih]
theorem equal_hash {C : Array Value} {l : List UInt8} (h : C = (u8s (hashOf l)).toArray) (w : World) : (Op.equalIn 10000 54 (.agg C) (.agg C)).run Tryz.prog w = .ok true w := by
  obtain ⟨i, hi⟩ := info8u
  have hz : C.size = 32 := by rw [h, List.size_toArray, u8s_length, hash_length]
  rw [run_equalIn_array (P := Tryz.prog) w 9999 C C Tryz.underlying54 hi, cells8]
  refine eqItems_same 9998 C ?_ w _ (fun j hj => by rw [hz]; simpa using hj)
  intro j hj
  have hl : j < (hashOf l).length := by rw [hash_length]; omega
  exact ⟨_, hash_get h (List.getElem?_eq_getElem hl)⟩
theorem guard32 : Tryz.prog.eqGuardType Tryz.prog.depth 54 = false := by kernel_rfl
theorem run_index_hash {C : Array Value} (h0 : C[0]? = some (.int .u8 227)) (hz : C.size = 32) (w : World) : (Instr.index 54 (.agg C) (.int .i64 0)).run Tryz.prog w = .ok (.int .u8 227) w := by
  simp [Instr.index, run_underlying Tryz.underlying54, asIntOf, go_sem, hz]
  exact Option.some.inj ((Array.getElem?_eq_getElem (by omega)).symm.trans h0)
theorem abc_data : (⟨#[97, 98, 99]⟩ : ByteArray).data.toList = [97, 98, 99] := rfl
theorem none_data : (⟨#[]⟩ : ByteArray).data.toList = [] := rfl
end Go.Proofs.YtjkmfonngbendaaGreatDoor.Hk
