/- The walk of the law that the hash is the document's. -/
import Derived.Test.YtglciacjfoimlaaDoorRefS
import Derived.ChangeKeysEq
namespace Go.Proofs.YtglciacjfoimlaaDoor.Hk
set_option linter.unusedVariables false
open Go.ChangeShapes Go.WideShapes Go.ChangeAt Go.RowKit
variable {tK tS : TypeId}
open Pk (be be_length u8s u8s_length u8s_set u8s_get)
def hashOf (l : List UInt8) : List UInt8 := hashB (pieces kc first (l ++ padL l.length) ((l.length + (padL l.length).length) / 64))
set_option maxRecDepth 100000 in
theorem abc_facts : (hashOf [97, 98, 99])[0]? = some 0xba ∧ (hashOf [97, 98, 99])[1]? = some 0x78 ∧ (hashOf [97, 98, 99])[31]? = some 0xad := by decide +kernel
set_option maxRecDepth 100000 in
theorem none_facts : (hashOf [])[0]? = some 0xe3 := by decide +kernel
theorem hash_length (l : List UInt8) : (hashOf l).length = 32 := by unfold hashOf hashB; simp
theorem sum_lit (x : ByteArray) (hx : x.size ≤ 140737488351232) (w : World) (hR : Row w 1 tK kc) (hR0 : Row w 0 tS first.list) :
    Calls Tryd.prog 6 #[.string x] w fun e w' => ∃ C, C = (u8s (hashOf x.data.toList)).toArray ∧ e = .returned (.agg C) ∧ Below w.heap.size w w' :=
  (sum_any kc kc_length first x hx w hR.lt hR0.lt hR hR0).mono fun _ _ h => ⟨_, by unfold hashOf; simp, h.1, h.2⟩
theorem refsum_lit (x : ByteArray) (hx : x.size ≤ 140737488351232) (w : World) :
    Calls Tryd.prog 7 #[.string x] w fun e w' => ∃ C, C = (u8s (hashOf x.data.toList)).toArray ∧ e = .returned (.agg C) ∧ Below w.heap.size w w' :=
  (refsum_any x hx w).mono fun _ _ h => ⟨_, by unfold hashOf; simp, h.1, h.2⟩
theorem hash_row {C : Array Value} {l : List UInt8} (h : C = (u8s (hashOf l)).toArray) : (Tryd.prog.info? 23).map (·.size) = some C.size ∧ (u8s (List.replicate 32 0)).toArray.size = C.size ∧ C.all (·.oneCell') = true := by
  rw [h]
  exact ⟨infoH (hash_length l), by rw [List.size_toArray, List.size_toArray, u8s_length, u8s_length, hash_length, List.length_replicate], u8s_one _⟩
theorem hash_get {C : Array Value} {l : List UInt8} {j : Nat} {b : UInt8} (h : C = (u8s (hashOf l)).toArray) (hb : (hashOf l)[j]? = some b) : C[j]? = some (.int .u8 (b.toNat : Int)) := by
  rw [h]; simp [u8s, hb]
theorem plain8 : Tryd.prog.plainKey 5 = true := by kernel_rfl
theorem info8u : ∃ i, Tryd.prog.info? 5 = some i := Option.isSome_iff_exists.mp (by kernel_rfl)
theorem cells8 : Tryd.prog.cellsOf 5 = 1 := by kernel_rfl
theorem eqItems_same (d : Nat) (C : Array Value) (hC : ∀ j, j < C.size → ∃ k : Int, C[j]? = some (.int .u8 k)) (w : World) : ∀ is : List Nat, (∀ i ∈ is, i < C.size) → (Op.eqItems (d + 1) 5 1 C C is).run Tryd.prog w = .ok true w
  | [], _ => by simp [Op.eqItems]
  | i :: is, h => by
    obtain ⟨k, hk⟩ := hC i (h i (by simp))
    have hp := run_part_plain (P := Tryd.prog) w plain8 (show C[i * 1]? = some (.int .u8 k) by rw [Nat.mul_one]; exact hk)
    have he := run_equalIn_int (P := Tryd.prog) w d 5 .u8 .u8 k k Tryd.underlying5
    have ih := eqItems_same d C hC w is (fun j hj => h j (by simp [hj]))
    simp only [Op.eqItems, Sem.run_bind, hp, he, Result.andThen_ok, beq_self_eq_true, Bool.not_true, Bool.false_eq_true, if_false, ih]
theorem equal_hash {C : Array Value} {l : List UInt8} (h : C = (u8s (hashOf l)).toArray) (w : World) : (Op.equalIn 10000 23 (.agg C) (.agg C)).run Tryd.prog w = .ok true w := by
  obtain ⟨i, hi⟩ := info8u
  have hz : C.size = 32 := by rw [h, List.size_toArray, u8s_length, hash_length]
  rw [run_equalIn_array (P := Tryd.prog) w 9999 C C Tryd.underlying23 hi, cells8]
  refine eqItems_same 9998 C ?_ w _ (fun j hj => by rw [hz]; simpa using hj)
  intro j hj
  have hl : j < (hashOf l).length := by rw [hash_length]; omega
  exact ⟨_, hash_get h (List.getElem?_eq_getElem hl)⟩
theorem guard32 : Tryd.prog.eqGuardType Tryd.prog.depth 23 = false := by kernel_rfl
theorem run_index_hash {C : Array Value} (h0 : C[0]? = some (.int .u8 227)) (hz : C.size = 32) (w : World) : (Instr.index 23 (.agg C) (.int .i64 0)).run Tryd.prog w = .ok (.int .u8 227) w := by
  simp [Instr.index, run_underlying Tryd.underlying23, asIntOf, go_sem, hz]
  exact Option.some.inj ((Array.getElem?_eq_getElem (by omega)).symm.trans h0)
theorem abc_data : (⟨#[97, 98, 99]⟩ : ByteArray).data.toList = [97, 98, 99] := rfl
theorem none_data : (⟨#[]⟩ : ByteArray).data.toList = [] := rfl
set_option maxRecDepth 100000 in
set_option maxHeartbeats 1000000 in
theorem sums_any (w : World) (hR : Row w 1 tK kc) (hR0 : Row w 0 tS first.list) :
    Calls Tryd.prog 5 #[] w fun e w' => e = .returned (.bool true) ∧ Below w.heap.size w w' := by
  have RK := Lib.hid hR
  have RF := Lib.hid hR0
  clear hR hR0
  go_enter Tryd.func5, Tryd.ntmps5
  go_wp2_with fail
  (go_at_call 6; (with_reducible refine (sum_lit _ (by decide) _ RK.out RF.out).mono ?_); rintro e w1 ⟨C, hC, rfl, hb1⟩)
  rw [abc_data] at hC
  have HC := Lib.hid hC
  have HB := Lib.hid hb1
  clear hC hb1
  have SV := Lib.hid (show ((w1.alloc (.cells (u8s (List.replicate 32 0)).toArray 23)).setRow w1.heap.size C).heap[w1.heap.size]? = some (.cells C 23 (0, 0)) from setRow_heap (w1.alloc (.cells (u8s (List.replicate 32 0)).toArray 23)) w1.heap.size _ C 23 (0, 0) (heap_alloc_new w1 _))
  have BV := Lib.hid (show Below w.heap.size w ((w1.alloc (.cells (u8s (List.replicate 32 0)).toArray 23)).setRow w1.heap.size C) from below_setRow (HB.out.alloc HB.out.size _) HB.out.size _)
  go_wp2_with (first
    | (refine wpList_store_row rfl 23 (.tmp 1) (.tmp 2) rfl w1.heap.size C rfl rfl 23 (u8s (List.replicate 32 0)).toArray (heap_alloc_new w1 _) (hash_row HC.out).1 (hash_row HC.out).2.1 (hash_row HC.out).2.2 ?_; change wpList _ _ _ _ _ ((w1.alloc (.cells (u8s (List.replicate 32 0)).toArray 23)).setRow w1.heap.size C); generalize ((w1.alloc (.cells (u8s (List.replicate 32 0)).toArray 23)).setRow w1.heap.size C) = V at *; have c0 : V.cell? ⟨w1.heap.size, 0, none⟩ = some (.int .u8 186) := (cell_of_row V w1.heap.size 0 C 23 (0, 0) SV.out).trans (hash_get HC.out abc_facts.1); have c1 : V.cell? ⟨w1.heap.size, 1, none⟩ = some (.int .u8 120) := (cell_of_row V w1.heap.size 1 C 23 (0, 0) SV.out).trans (hash_get HC.out abc_facts.2.1); have c31 : V.cell? ⟨w1.heap.size, 31, none⟩ = some (.int .u8 173) := (cell_of_row V w1.heap.size 31 C 23 (0, 0) SV.out).trans (hash_get HC.out abc_facts.2.2); have VK := Lib.hid (row_below RK.out BV.out RK.out.lt); have VF := Lib.hid (row_below RF.out BV.out RF.out.lt); generalize w1.heap.size = b at *)
    | (go_at_call 6; (with_reducible refine (sum_lit _ (by decide) _ VK.out VF.out).mono ?_); rintro e w2 ⟨C2, hC2, rfl, hb2⟩; rw [none_data] at hC2; have HC2 := Lib.hid hC2; have HB2 := Lib.hid hb2; clear hC2 hb2))
  rw [run_index_hash (hash_get HC2.out none_facts) (by rw [HC2.out, List.size_toArray, u8s_length, hash_length])]
  go_upon
  go_wp2
  go_ret
  exact ⟨rfl, BV.out.trans (HB2.out.mono BV.out.size)⟩
set_option maxRecDepth 100000 in
set_option maxHeartbeats 1000000 in
theorem hashSums_walk (x : ByteArray) (hx : x.size ≤ 140737488351232) (w : World) (hR : Row w 1 tK kc) (hR0 : Row w 0 tS first.list) :
    Calls Tryd.prog 3 #[.string x] w fun e w' => e = .returned (.bool true) ∧ Below w.heap.size w w' := by
  have RK := Lib.hid hR
  have RF := Lib.hid hR0
  have hg := guard32
  clear hR hR0
  go_enter Tryd.func3, Tryd.ntmps3
  go_wp2_with (first
    | (go_at_call 5; (with_reducible refine (sums_any _ RK.out RF.out).mono ?_); rintro e w1 ⟨rfl, hb1⟩; have B1 := Lib.hid hb1; have K1 := Lib.hid (row_below RK.out hb1 RK.out.lt); have F1 := Lib.hid (row_below RF.out hb1 RF.out.lt); clear hb1)
    | (go_at_call 6; (with_reducible refine (sum_lit x hx _ K1.out F1.out).mono ?_); rintro e w2 ⟨C, hC, rfl, hb2⟩; have HC := Lib.hid hC; have B2 := Lib.hid hb2; clear hC hb2)
    | (go_at_call 7; (with_reducible refine (refsum_lit x hx _).mono ?_); rintro e w3 ⟨C2, hC2, rfl, hb3⟩; rw [← HC.out] at hC2; subst hC2; have B3 := Lib.hid hb3; clear hb3; have hq := equal_hash HC.out))
  go_ret
  exact ⟨rfl, (B1.out.trans (B2.out.mono B1.out.size)).trans (B3.out.mono (Nat.le_trans B1.out.size B2.out.size))⟩
end Go.Proofs.YtglciacjfoimlaaDoor.Hk
