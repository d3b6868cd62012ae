/- The walk of the laws' own question: a hash's digits and back. -/
import Derived.Test.YteelickbdigpkaaHexQ
import Derived.ChangeKeysEq
import Derived.Great.Walk
namespace Go.Proofs.Yteelickbdigpkaa.Hc
set_option linter.unusedVariables false
open Go.ChangeShapes Go.WideShapes Go.ChangeAt Go.RowKit
open Pk (u8s u8s_length u8s_set u8s_get)
def l0 : List UInt8 := 171 :: (List.replicate 30 0 ++ [9])
theorem l0_length : l0.length = 32 := rfl
theorem l0_hex : (hexL l0).length = 64 ∧ (hexL l0).take 2 = [97, 98] ∧ (hexL l0).drop 62 = [48, 57] := by decide +kernel
theorem pOk_hex {l : List UInt8} (h : l.length = 32) : pOk (hexL l) = true := by
  unfold pOk
  rw [Bool.and_eq_true, decide_eq_true_eq]
  exact ⟨by rw [hexL_length, h], allOk_hex l⟩
theorem pA_hex {l : List UInt8} (h : l.length = 32) : pA (hexL l) = l := by rw [(pE_yes (pOk_hex h)).2, parse_hex]
theorem pE_hex {l : List UInt8} (h : l.length = 32) : pE (hexL l) = 0 := (pE_yes (pOk_hex h)).1
theorem hex_lit (l : List UInt8) (hl : l.length = 32) (C : Array Value) (hC : C = (u8s l).toArray) (w : World) :
    Calls Try.prog 10 #[.agg C] w fun e w' => ∃ s : ByteArray, s.data.toList = hexL l ∧ e = .returned (.string s) ∧ Below w.heap.size w w' := by
  subst hC
  exact (hex_any l hl w).mono fun _ _ h => ⟨_, by simp, h.1, h.2⟩
theorem refhex_lit (l : List UInt8) (hl : l.length = 32) (C : Array Value) (hC : C = (u8s l).toArray) (w : World) :
    Calls Try.prog 11 #[.agg C] w fun e w' => ∃ s : ByteArray, s.data.toList = hexL l ∧ e = .returned (.string s) ∧ Below w.heap.size w w' := by
  subst hC
  exact (refhex_any l hl w).mono fun _ _ h => ⟨_, by simp, h.1, h.2⟩
theorem plain8 : Try.prog.plainKey 5 = true := by kernel_rfl
theorem info8u : ∃ i, Try.prog.info? 5 = some i := Option.isSome_iff_exists.mp (by kernel_rfl)
theorem cells8 : Try.prog.cellsOf 5 = 1 := by kernel_rfl
theorem u8s_at {C : Array Value} {l : List UInt8} (h : C = (u8s l).toArray) {j : Nat} (hj : j < C.size) : ∃ k : Int, C[j]? = some (.int .u8 k) := by
  have hl : j < l.length := by rw [h, List.size_toArray, u8s_length] at hj; exact hj
  exact ⟨(l[j].toNat : Int), by rw [h]; simp [u8s, List.getElem?_eq_getElem hl]⟩
theorem eqItems_same (d : Nat) (C : Array Value) (hC : ∀ j, j < C.size → ∃ k : Int, C[j]? = some (.int .u8 k)) (w : World) : ∀ is : List Nat, (∀ i ∈ is, i < C.size) → (Op.eqItems (d + 1) 5 1 C C is).run Try.prog w = .ok true w
  | [], _ => by simp [Op.eqItems]
  | i :: is, h => by
    obtain ⟨k, hk⟩ := hC i (h i (by simp))
    have hp := run_part_plain (P := Try.prog) w plain8 (show C[i * 1]? = some (.int .u8 k) by rw [Nat.mul_one]; exact hk)
    have he := run_equalIn_int (P := Try.prog) w d 5 .u8 .u8 k k Try.underlying5
    have ih := eqItems_same d C hC w is (fun j hj => h j (by simp [hj]))
    simp only [Op.eqItems, Sem.run_bind, hp, he, Result.andThen_ok, beq_self_eq_true, Bool.not_true, Bool.false_eq_true, if_false, ih]
theorem equal_arr {C : Array Value} {l : List UInt8} (h : C = (u8s l).toArray) (hl : l.length = 32) (w : World) : (Op.equalIn 10000 22 (.agg C) (.agg C)).run Try.prog w = .ok true w := by
  obtain ⟨i, hi⟩ := info8u
  have hz : C.size = 32 := by rw [h, List.size_toArray, u8s_length, hl]
  rw [run_equalIn_array (P := Try.prog) w 9999 C C Try.underlying22 hi, cells8]
  exact eqItems_same 9998 C (fun j hj => u8s_at h hj) w _ (fun j hj => by rw [hz]; simpa using hj)
theorem guard32 : Try.prog.eqGuardType Try.prog.depth 22 = false := by kernel_rfl
theorem arr_row {C : Array Value} {l : List UInt8} (h : C = (u8s l).toArray) (hl : l.length = 32) : (Try.prog.info? 22).map (·.size) = some C.size ∧ Z32.size = C.size ∧ C.all (·.oneCell') = true := by
  rw [h]
  exact ⟨infoH hl, by show Z32.size = (u8s l).length; rw [u8s_length, hl]; rfl, u8s_one _⟩
def C0 : Array Value := (u8s l0).toArray
set_option maxRecDepth 100000 in
theorem c0_row {V : World} {g : Nat} (h : V.heap[g]? = some (.cells Z32 22 (0, 0))) : ((V.setCell ⟨g, 0, none⟩ (.int .u8 171)).setCell ⟨g, 31, none⟩ (.int .u8 9)).heap[g]? = some (.cells C0 22 (0, 0)) := by
  have h1 := heap_setCell_same V g 0 Z32 22 (.int .u8 171) h
  have h2 := heap_setCell_same _ g 31 _ 22 (.int .u8 9) h1
  rw [h2]
  rfl
theorem alloc_run (ev : Operand → Value) (o : Oper) (ho : o.op = .alloc 22) (w : World) : (execOp ev o).run Try.prog w = .ok (.value (.pointer (some ⟨w.heap.size, 0, none⟩))) (w.alloc (.cells Z32 22)) := by
  unfold execOp
  rw [ho]
  rfl
theorem cut_facts {s : ByteArray} (hs : s.data.toList = hexL l0) : s.size = 64 ∧ s.extract 0 2 = ⟨#[97, 98]⟩ ∧ s.extract 62 64 = ⟨#[48, 57]⟩ := by
  have hd : s.data = (hexL l0).toArray := by rw [← hs]
  have e : s = ⟨(hexL l0).toArray⟩ := ByteArray.ext hd
  subst e
  have h1 : ((⟨(hexL l0).toArray⟩ : ByteArray).extract 0 2).data = #[97, 98] := by decide +kernel
  have h2 : ((⟨(hexL l0).toArray⟩ : ByteArray).extract 62 64).data = #[48, 57] := by decide +kernel
  exact ⟨rfl, ByteArray.ext h1, ByteArray.ext h2⟩
theorem old_row {w : World} {g : Nat} (h : g < w.heap.size) (o : Obj) (cs : Array Value) : ((w.alloc o).setRow w.heap.size cs).heap[g]? = w.heap[g]? := by
  simp only [World.setRow, Array.getElem?_modify]
  rw [if_neg (by omega)]
  exact Below.heap_alloc w o g h
theorem wpList_load_row_w {P : Program} {ops : Array Oper} {rest : List Oper} {o : Oper} {a : Act} {w : World} {Q : Exit → Act → World → Prop} (hw : Region.wanted o (yielded ops a.tmps) = true) (ty : TypeId) (x : Operand) (ho : o.op = .load ty x)
    (g : Nat) (hx : a.eval x = .pointer (some ⟨g, 0, none⟩)) (t : TypeId) (cs : Array Value) (fr : Nat × Nat) (d : TypeDesc) (hg : w.heap[g]? = some (.cells cs t fr))
    (hu : P.underlying ty = some d) (hd : (match d with | .struct _ | .array _ _ => true | _ => false) = true) (hi : (P.info? ty).map (·.size) = some cs.size)
    (h : wpList P ops Q rest (a.put o.dst (.agg cs)) w) : wpList P ops Q (o :: rest) a w :=
  wpList_step fun K hK => by
    rw [if_pos hw]
    exact wp_load_row ty x ho g hx t cs fr d hg hu hd hi (hK _ _ h)
set_option maxRecDepth 100000 in
set_option maxHeartbeats 500000 in
theorem codes_any (w : World) :
    Calls Try.prog 9 #[] w fun e w' => e = .returned (.bool true) ∧ Below w.heap.size w w' := by
  have R0 := Lib.hid (heap_alloc_new w (.cells Z32 22))
  have B0 := Lib.hid ((Below.refl w.heap.size w).alloc (Nat.le_refl _) (.cells Z32 22))
  go_enter Try.func9, Try.ntmps9
  go_wp2_with (first
    | (refine Go.Great.wpList_allocTo rfl (some 1) rfl _ _ (alloc_run _ _ rfl _) ?_; change wpList _ _ _ _ _ (w.alloc (.cells Z32 22)); generalize w.alloc (.cells Z32 22) = V at *; have c0 : V.cell? ⟨w.heap.size, 0, none⟩ = some (.int .u8 0) := cell_of_row V w.heap.size 0 Z32 22 (0, 0) R0.out; have c31 : V.cell? ⟨w.heap.size, 31, none⟩ = some (.int .u8 0) := cell_of_row V w.heap.size 31 Z32 22 (0, 0) R0.out; have f0 := frozen_of_row V w.heap.size 0 Z32 22 R0.out; have f31 := frozen_of_row V w.heap.size 31 Z32 22 R0.out)
    | (refine wpList_load_row rfl 22 (.tmp 1) rfl w.heap.size rfl 22 C0 (0, 0) _ (c0_row R0.out) Try.underlying22 rfl (infoH l0_length) ?_))
  have RV := Lib.hid (c0_row R0.out)
  have BV := Lib.hid ((B0.out.setCell (p := ⟨w.heap.size, 0, none⟩) (Nat.le_refl _) (.int .u8 171)).setCell (p := ⟨w.heap.size, 31, none⟩) (Nat.le_refl _) (.int .u8 9))
  have hlV : w.heap.size < ((V.setCell ⟨w.heap.size, 0, none⟩ (.int .u8 171)).setCell ⟨w.heap.size, 31, none⟩ (.int .u8 9)).heap.size := by
    rcases Nat.lt_or_ge w.heap.size ((V.setCell ⟨w.heap.size, 0, none⟩ (.int .u8 171)).setCell ⟨w.heap.size, 31, none⟩ (.int .u8 9)).heap.size with h | h
    · exact h
    · have := RV.out; rw [Array.getElem?_eq_none h] at this; cases this
  generalize ((V.setCell ⟨w.heap.size, 0, none⟩ (.int .u8 171)).setCell ⟨w.heap.size, 31, none⟩ (.int .u8 9)) = V1 at *
  clear c0 c31 f0 f31 R0 B0
  refine (hex_lit l0 l0_length C0 rfl _).mono ?_
  rintro e w1 ⟨s, hs, rfl, hb1⟩
  obtain ⟨z64, k1, k2⟩ := cut_facts hs
  have R1 := Lib.hid ((hb1.block _ hlV).trans RV.out)
  have B1 := Lib.hid (BV.out.trans (hb1.mono BV.out.size))
  have hl1 : w.heap.size < w1.heap.size := Nat.lt_of_lt_of_le hlV hb1.size
  have K1 := Lib.hid k1
  have K2 := Lib.hid k2
  have HS := Lib.hid hs
  clear k1 k2 hs hb1 V RV BV
  go_wp2_with fail
  have hms : s.size ≤ maxLen := by rw [z64]; unfold maxLen; omega
  refine (parse_any s hms _).mono ?_
  rintro e w2 ⟨C, hC, rfl, hb2⟩
  rw [HS.out, pE_hex l0_length]
  rw [HS.out, pA_hex l0_length] at hC
  change C = C0 at hC
  subst hC
  have R2 := Lib.hid ((hb2.block _ hl1).trans R1.out)
  have B2 := Lib.hid (B1.out.trans (hb2.mono B1.out.size))
  have hl2 : w.heap.size < w2.heap.size := Nat.lt_of_lt_of_le hl1 hb2.size
  clear hb2 R1 B1
  have hg := guard32
  have hq := equal_arr (C := C0) (l := l0) rfl l0_length
  have hr0 := arr_row (C := C0) (l := l0) rfl l0_length
  have HR := Lib.hid hr0
  clear hr0
  have k1 := K1.out
  have k2 := K2.out
  go_wp2_with (first
    | (refine Go.Great.wpList_allocTo rfl (some 3) rfl _ _ (alloc_run _ _ rfl _) ?_)
    | (refine wpList_store_row rfl 22 (.tmp 3) (.tmp 12) rfl w2.heap.size C0 rfl rfl 22 Z32 (heap_alloc_new w2 _) HR.out.1 HR.out.2.1 HR.out.2.2 ?_; have R3 := Lib.hid (setRow_heap' (cs := C0) (heap_alloc_new w2 (.cells Z32 22))); have R4 := Lib.hid (show ((w2.alloc (.cells Z32 22)).setRow w2.heap.size C0).heap[w.heap.size]? = some (.cells C0 22 (0, 0)) from (old_row hl2 _ _).trans R2.out); have B3 := Lib.hid (below_setRow (B2.out.alloc (Nat.le_of_lt hl2) (.cells Z32 22)) (Nat.le_of_lt hl2) C0); change wpList _ _ _ _ _ ((w2.alloc (.cells Z32 22)).setRow w2.heap.size C0); generalize ((w2.alloc (.cells Z32 22)).setRow w2.heap.size C0) = V3 at *)
    | (refine wpList_load_row_w (by rfl) 22 (.tmp 3) (by rfl) w2.heap.size (by rfl) 22 C0 (0, 0) _ R3.out Try.underlying22 rfl HR.out.1 ?_)
    | (refine wpList_load_row_w (by rfl) 22 (.tmp 1) (by rfl) w.heap.size (by rfl) 22 C0 (0, 0) _ R4.out Try.underlying22 rfl HR.out.1 ?_))
  go_ret
  exact ⟨rfl, B3.out⟩
end Go.Proofs.Yteelickbdigpkaa.Hc
