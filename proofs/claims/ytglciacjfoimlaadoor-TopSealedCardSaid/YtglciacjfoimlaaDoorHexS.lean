/- What the walks of the laws on hashes lean on: arrays of 32 bytes, laid, loaded, held against each other. -/
import Derived.Test.YtglciacjfoimlaaDoorHexP
import Derived.Test.YtglciacjfoimlaaDoorReg
import Derived.ChangeKeysEq
import Derived.Great.Walk
namespace Go.Proofs.YtglciacjfoimlaaDoor.Hc
set_option linter.unusedVariables false
open Go.ChangeShapes Go.WideShapes Go.ChangeAt Go.RowKit
open Pk (u8s u8s_length u8s_set u8s_get)
theorem pOk_hex {l : List UInt8} (h : l.length = 32) : pOk (hexL l) = true := by
  unfold pOk
  rw [Bool.and_eq_true, decide_eq_true_eq]
  exact ⟨by rw [hexL_length, h], allOk_hex l⟩
theorem pA_hex {l : List UInt8} (h : l.length = 32) : pA (hexL l) = l := by rw [(pE_yes (pOk_hex h)).2, parse_hex]
theorem pE_hex {l : List UInt8} (h : l.length = 32) : pE (hexL l) = 0 := (pE_yes (pOk_hex h)).1
theorem hex_lit (l : List UInt8) (hl : l.length = 32) (C : Array Value) (hC : C = (u8s l).toArray) (w : World) :
    Calls Tryd.prog 10 #[.agg C] w fun e w' => ∃ s : ByteArray, s.data.toList = hexL l ∧ e = .returned (.string s) ∧ Below w.heap.size w w' := by
  subst hC
  exact (hex_any l hl w).mono fun _ _ h => ⟨_, by simp, h.1, h.2⟩
theorem plain8 : Tryd.prog.plainKey 5 = true := by kernel_rfl
theorem info8u : ∃ i, Tryd.prog.info? 5 = some i := Option.isSome_iff_exists.mp (by kernel_rfl)
theorem cells8 : Tryd.prog.cellsOf 5 = 1 := by kernel_rfl
theorem u8s_at {C : Array Value} {l : List UInt8} (h : C = (u8s l).toArray) {j : Nat} (hj : j < C.size) : ∃ k : Int, C[j]? = some (.int .u8 k) := by
  have hl : j < l.length := by rw [h, List.size_toArray, u8s_length] at hj; exact hj
  exact ⟨(l[j].toNat : Int), by rw [h]; simp [u8s, List.getElem?_eq_getElem hl]⟩
theorem eqItems_same (d : Nat) (C : Array Value) (hC : ∀ j, j < C.size → ∃ k : Int, C[j]? = some (.int .u8 k)) (w : World) : ∀ is : List Nat, (∀ i ∈ is, i < C.size) → (Op.eqItems (d + 1) 5 1 C C is).run Tryd.prog w = .ok true w
  | [], _ => by simp [Op.eqItems]
  | i :: is, h => by
    obtain ⟨k, hk⟩ := hC i (h i (by simp))
    have hp := run_part_plain (P := Tryd.prog) w plain8 (show C[i * 1]? = some (.int .u8 k) by rw [Nat.mul_one]; exact hk)
    have he := run_equalIn_int (P := Tryd.prog) w d 5 .u8 .u8 k k Tryd.underlying5
    have ih := eqItems_same d C hC w is (fun j hj => h j (by simp [hj]))
    simp only [Op.eqItems, Sem.run_bind, hp, he, Result.andThen_ok, beq_self_eq_true, Bool.not_true, Bool.false_eq_true, if_false, ih]
theorem equal_arr {C : Array Value} {l : List UInt8} (h : C = (u8s l).toArray) (hl : l.length = 32) (w : World) : (Op.equalIn 10000 23 (.agg C) (.agg C)).run Tryd.prog w = .ok true w := by
  obtain ⟨i, hi⟩ := info8u
  have hz : C.size = 32 := by rw [h, List.size_toArray, u8s_length, hl]
  rw [run_equalIn_array (P := Tryd.prog) w 9999 C C Tryd.underlying23 hi, cells8]
  exact eqItems_same 9998 C (fun j hj => u8s_at h hj) w _ (fun j hj => by rw [hz]; simpa using hj)
theorem guard32 : Tryd.prog.eqGuardType Tryd.prog.depth 23 = false := by kernel_rfl
theorem arr_row {C : Array Value} {l : List UInt8} (h : C = (u8s l).toArray) (hl : l.length = 32) : (Tryd.prog.info? 23).map (·.size) = some C.size ∧ Z32.size = C.size ∧ C.all (·.oneCell') = true := by
  rw [h]
  exact ⟨infoH hl, by show Z32.size = (u8s l).length; rw [u8s_length, hl]; rfl, u8s_one _⟩
theorem alloc_run (ev : Operand → Value) (o : Oper) (ho : o.op = .alloc 23) (w : World) : (execOp ev o).run Tryd.prog w = .ok (.value (.pointer (some ⟨w.heap.size, 0, none⟩))) (w.alloc (.cells Z32 23)) := by
  unfold execOp
  rw [ho]
  rfl
theorem old_row {w : World} {g : Nat} (h : g < w.heap.size) (o : Obj) (cs : Array Value) : ((w.alloc o).setRow w.heap.size cs).heap[g]? = w.heap[g]? := by
  simp only [World.setRow, Array.getElem?_modify]
  rw [if_neg (by omega)]
  exact Below.heap_alloc w o g h
theorem wpList_load_row_w {P : Program} {ops : Array Oper} {rest : List Oper} {o : Oper} {a : Act} {w : World} {Q : Exit → Act → World → Prop} (hw : Region.wanted o (yielded ops a.tmps) = true) (ty : TypeId) (x : Operand) (ho : o.op = .load ty x)
    (g : Nat) (hx : a.eval x = .pointer (some ⟨g, 0, none⟩)) (t : TypeId) (cs : Array Value) (fr : Nat × Nat) (d : TypeDesc) (hg : w.heap[g]? = some (.cells cs t fr))
    (hu : P.underlying ty = some d) (hd : (match d with | .struct _ | .array _ _ => true | _ => false) = true) (hi : (P.info? ty).map (·.size) = some cs.size)
    (h : wpList P ops Q rest (a.put o.dst (.agg cs)) w) : wpList P ops Q (o :: rest) a w :=
  wpList_step fun K hK => by
    rw [if_pos hw]
    exact wp_load_row ty x ho g hx t cs fr d hg hu hd hi (hK _ _ h)
def At (w : World) (g : Nat) (C : Array Value) : Prop := w.heap[g]? = some (.cells C 23 (0, 0))
theorem At.lt {w : World} {g : Nat} {C : Array Value} (h : At w g C) : g < w.heap.size := by
  rcases Nat.lt_or_ge g w.heap.size with h' | h'
  · exact h'
  · unfold At at h; rw [Array.getElem?_eq_none h'] at h; cases h
theorem At.below {w w' : World} {g : Nat} {C : Array Value} (h : At w g C) (hb : Below w.heap.size w w') : At w' g C := (hb.block g h.lt).trans h
theorem At.range {w : World} {g : Nat} {C : Array Value} (h : At w g C) : w.rangeAt g 0 C.toList := fun j v hv => by
  unfold At at h
  rw [Nat.zero_add, cell_of_row w g j C _ (0, 0) h]
  simpa using hv
theorem range_below {w w' : World} {g : Nat} {l : List Value} (hl : 0 < l.length) (h : w.rangeAt g 0 l) (hb : Below w.heap.size w w') : w'.rangeAt g 0 l := fun j v hv => by
  have hc := h j v hv
  have hlt : g < w.heap.size := World.block_lt_of_cell? w _ hc
  exact (hb.cell (p := ⟨g, 0 + j, none⟩) hlt).trans hc
theorem hex_same (l : List UInt8) (hl : l.length = 32) (C : Array Value) (hC : C = (u8s l).toArray) (X : ByteArray) (hX : X = ⟨(hexL l).toArray⟩) (w : World) :
    Calls Tryd.prog 10 #[.agg C] w fun e w' => e = .returned (.string X) ∧ Below w.heap.size w w' := by
  subst hC hX
  exact hex_any l hl w
end Go.Proofs.YtglciacjfoimlaaDoor.Hc
