/- Contracts of package node's rightRoot, rightVolume. -/
import Derived.Test.YtlpejbbmemhloaaGreatDoorNdE
import Derived.Test.YtlpejbbmemhloaaGreatDoorNdV
namespace Go.Proofs.YtlpejbbmemhloaaGreatDoor.Nd
set_option linter.unusedVariables false
open Go.ChangeShapes Go.WideShapes Go.ChangeAt Go.RowKit
open Rg
open Pk (u8s u8s_length)
/-- a load of a whole array or struct, from the middle of a row -/
theorem wpList_load_at {P : Program} {ops : Array Oper} {rest : List Oper} {o : Oper} {a : Act} {w : World} {Q : Exit → Act → World → Prop} (hgd : o.guard = none) (ty : TypeId) (x : Operand) (ho : o.op = .load ty x) (b off : Nat) (hx : a.eval x = .pointer (some ⟨b, off, none⟩)) (cs : List Value) (d : TypeDesc) (hc : w.rangeAt b off cs)
    (hu : P.underlying ty = some d) (hd : d.isRow = true) (hi : (P.info? ty).map (·.size) = some cs.length) (h : wpList P ops Q rest (a.put o.dst (.agg cs.toArray)) w) : wpList P ops Q (o :: rest) a w :=
  wpList_plain hgd fun K hK => by
    unfold Oper.wp
    rw [load_run ty x ho b off hx cs d hc hu hd hi, Oper.upon_value]
    exact hK _ _ h
theorem rangeAt_row {w : World} {b off : Nat} {cs : Array Value} {t : TypeId} {vs : List Value} (h : w.heap[b]? = some (.cells cs t (0, 0))) (hv : ∀ j v, vs[j]? = some v → cs[off + j]? = some v) : w.rangeAt b off vs :=
  fun j v hj => (cell_of_row _ _ (off + j) _ _ _ h).trans (hv j v hj)
def rtRoot (x : Vo) : Bool := if x.rt = 0 then zero32 x.hs else okNum x.rt
set_option maxRecDepth 100000 in
set_option maxHeartbeats 2000000 in
theorem rightRoot_any (x : Vo) (hl : x.hs.length = 32) (w : World) :
    Calls Tryz.prog 161 #[.agg (encV x).toArray] w fun e w' => e = .returned (.bool (rtRoot x)) ∧ Below w.heap.size w w' := by
  have HB := Lib.hid (show Below w.heap.size w (w.alloc (.cells (encV x).toArray 121)) from (Below.refl _ _).alloc (Nat.le_refl _) _)
  have HR := Lib.hid (heap_alloc_new w (.cells (encV x).toArray 121))
  have HC4 := Lib.hid (show (w.alloc (.cells (encV x).toArray 121)).cell? ⟨w.heap.size, 4, none⟩ = some (.int .u32 x.rt) from cell_of_row _ _ 4 _ _ _ HR.out)
  have HRG := Lib.hid (show (w.alloc (.cells (encV x).toArray 121)).rangeAt w.heap.size 5 (u8s x.hs) from rangeAt_row HR.out (fun j v hj => by
    show (encV x).toArray[5 + j]? = some v
    unfold encV
    rw [List.getElem?_toArray, Nat.add_comm 5 j]
    exact hj))
  have HI := Lib.hid (show (Tryz.prog.info? 43).map (·.size) = some (u8s x.hs).length by rw [u8s_length, hl]; kernel_rfl)
  have HEQ := Lib.hid (show ∀ w, (Op.equalIn 10000 43 (.agg (u8s x.hs).toArray) (.agg zH)).run Tryz.prog w = .ok (decide (x.hs = List.replicate 32 0)) w from fun w => by rw [zH_u8s]; exact eq_arr (m := List.replicate 32 0) hl (by rw [List.length_replicate]) w)
  by_cases h0 : x.rt = 0
  · have HX := Lib.hid (show rtRoot x = decide (x.hs = List.replicate 32 0) by unfold rtRoot zero32; rw [if_pos h0])
    have q0 : ((x.rt : Int) == 0) = true := by rw [h0]; rfl
    rw [HX.out]
    generalize decide (x.hs = List.replicate 32 0) = q at *
    clear h0
    go_enter Tryz.func161, Tryz.ntmps161
    have c4 := HC4.out
    generalize hW : w.alloc (.cells (encV x).toArray 121) = w1 at *
    have heq := HEQ.out
    have hgd := guard32
    go_wp2_with (refine wpList_load_at rfl 43 (.tmp 6) rfl w.heap.size 5 rfl (u8s x.hs) _ HRG.out Tryz.underlying43 rfl HI.out ?_)
    go_ret
    exact ⟨rfl, HB.out⟩
  · have HX := Lib.hid (show rtRoot x = okNum x.rt by unfold rtRoot; rw [if_neg h0])
    have q0 : ((x.rt : Int) == 0) = false := by rw [beq_eq_false_iff_ne]; omega
    rw [HX.out]
    have HN := Lib.hid (fun w => rightNum_any x.rt w)
    clear HEQ HRG HI h0
    go_enter Tryz.func161, Tryz.ntmps161
    have c4 := HC4.out
    generalize hW : w.alloc (.cells (encV x).toArray 121) = w1 at *
    go_wp2_with (go_at_call 139; refine (HN.out _).mono ?_; rintro e w' ⟨rfl, rfl⟩)
    go_ret
    exact ⟨rfl, HB.out⟩
end Go.Proofs.YtlpejbbmemhloaaGreatDoor.Nd
