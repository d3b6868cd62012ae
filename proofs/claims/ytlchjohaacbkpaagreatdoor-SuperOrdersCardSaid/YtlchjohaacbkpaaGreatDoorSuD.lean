/- Contracts of package super: taken, Decode. -/
import Derived.Test.YtlchjohaacbkpaaGreatDoorSuC
import Derived.Laws.CopyOwn
namespace Go.Proofs.YtlchjohaacbkpaaGreatDoor.Sp
set_option linter.unusedVariables false
set_option linter.unusedSimpArgs false
open Go.ChangeShapes Go.WideShapes Go.ChangeAt Go.RowKit
open Nd Rg
open BigFrame
open Pk (be num be_length num_lt tN tR tE take_any u8s u8s_length)
abbrev zS : Array Value := #[.int .u32 0, .int .u64 0, .int .u32 0, .int .u8 0, .int .u8 0, .int .u8 0, .int .u8 0, .int .u8 0, .int .u8 0, .int .u8 0, .int .u8 0, .int .u8 0, .int .u8 0, .int .u8 0, .int .u8 0, .int .u8 0, .int .u8 0, .int .u8 0, .int .u8 0, .int .u8 0, .int .u8 0, .int .u8 0, .int .u8 0, .int .u8 0, .int .u8 0, .int .u8 0, .int .u8 0, .int .u8 0, .int .u8 0, .int .u8 0, .int .u8 0, .int .u8 0, .int .u8 0, .int .u8 0, .int .u8 0]
theorem info8s : (Tryz.prog.info? 5).map (·.size) = some 1 := by kernel_rfl
theorem zS_size : zS.size = 35 := rfl
/-- the cells of what is taken -/
theorem cur_copied (n1 n2 n3 : Nat) (l : List UInt8) (h : l.length = 32) : ((#[.int .u32 (n1 : Int), .int .u64 (n2 : Int), .int .u32 (n3 : Int), .int .u8 0, .int .u8 0, .int .u8 0, .int .u8 0, .int .u8 0, .int .u8 0, .int .u8 0, .int .u8 0, .int .u8 0, .int .u8 0, .int .u8 0, .int .u8 0, .int .u8 0, .int .u8 0, .int .u8 0, .int .u8 0, .int .u8 0, .int .u8 0, .int .u8 0, .int .u8 0, .int .u8 0, .int .u8 0, .int .u8 0, .int .u8 0, .int .u8 0, .int .u8 0, .int .u8 0, .int .u8 0, .int .u8 0, .int .u8 0, .int .u8 0, .int .u8 0] : Array Value).toList.take 3 ++ Lib.byteCells l ++ (#[.int .u32 (n1 : Int), .int .u64 (n2 : Int), .int .u32 (n3 : Int), .int .u8 0, .int .u8 0, .int .u8 0, .int .u8 0, .int .u8 0, .int .u8 0, .int .u8 0, .int .u8 0, .int .u8 0, .int .u8 0, .int .u8 0, .int .u8 0, .int .u8 0, .int .u8 0, .int .u8 0, .int .u8 0, .int .u8 0, .int .u8 0, .int .u8 0, .int .u8 0, .int .u8 0, .int .u8 0, .int .u8 0, .int .u8 0, .int .u8 0, .int .u8 0, .int .u8 0, .int .u8 0, .int .u8 0, .int .u8 0, .int .u8 0, .int .u8 0] : Array Value).toList.drop (3 + 32)).toArray = (esS ⟨n1, n2, n3, l⟩).toArray := by
  have e : Lib.byteCells l = u8s l := rfl
  rw [e]
  show ([Value.int .u32 (n1 : Int), .int .u64 (n2 : Int), .int .u32 (n3 : Int)] ++ u8s l ++ []).toArray = _
  rw [List.append_nil]
  rfl
theorem cur_one (n1 n2 n3 : Nat) : (#[.int .u32 (n1 : Int), .int .u64 (n2 : Int), .int .u32 (n3 : Int), .int .u8 0, .int .u8 0, .int .u8 0, .int .u8 0, .int .u8 0, .int .u8 0, .int .u8 0, .int .u8 0, .int .u8 0, .int .u8 0, .int .u8 0, .int .u8 0, .int .u8 0, .int .u8 0, .int .u8 0, .int .u8 0, .int .u8 0, .int .u8 0, .int .u8 0, .int .u8 0, .int .u8 0, .int .u8 0, .int .u8 0, .int .u8 0, .int .u8 0, .int .u8 0, .int .u8 0, .int .u8 0, .int .u8 0, .int .u8 0, .int .u8 0, .int .u8 0] : Array Value).all (·.oneCell') = true := by simp [Value.oneCell']
theorem infoCur (n1 n2 n3 : Nat) : (Tryz.prog.info? 44).map (·.size) = some (#[.int .u32 (n1 : Int), .int .u64 (n2 : Int), .int .u32 (n3 : Int), .int .u8 0, .int .u8 0, .int .u8 0, .int .u8 0, .int .u8 0, .int .u8 0, .int .u8 0, .int .u8 0, .int .u8 0, .int .u8 0, .int .u8 0, .int .u8 0, .int .u8 0, .int .u8 0, .int .u8 0, .int .u8 0, .int .u8 0, .int .u8 0, .int .u8 0, .int .u8 0, .int .u8 0, .int .u8 0, .int .u8 0, .int .u8 0, .int .u8 0, .int .u8 0, .int .u8 0, .int .u8 0, .int .u8 0, .int .u8 0, .int .u8 0, .int .u8 0] : Array Value).size := infoS35
theorem u32_same {n : Nat} (h : n < 4294967296) : IntKind.u32.wrap (n : Int) = n := by simp [IntKind.wrap, IntKind.bits, IntKind.signed]; omega
set_option maxRecDepth 100000 in
set_option maxHeartbeats 4000000 in
theorem taken_su (d : ByteArray) (hd : d.size ≤ 140737488351232) (w : World) :
    Calls Tryz.prog 60 #[.string d] w fun e w' => e = .returned (vS (tkS d)) ∧ Below w.heap.size w w' := by
  obtain ⟨r0, r1, r2, r3, n1, n2, n3, h0, z0, a1, b1, z1, a2, b2, z2, a3, b3, z3, l1, l2, l3, ht⟩ := tk_parts d
  have T1 := Lib.hid (fun w => takeS r0 4 w (by unfold maxLen; omega))
  have T2 := Lib.hid (fun w => takeS r1 8 w (by unfold maxLen; omega))
  have T3 := Lib.hid (fun w => takeS r2 4 w (by unfold maxLen; omega))
  rw [show tN r0 4 = (n1 : Int) from a1, show tR r0 4 = r1 from b1] at T1
  rw [show tN r1 8 = (n2 : Int) from a2, show tR r1 8 = r2 from b2] at T2
  rw [show tN r2 4 = (n3 : Int) from a3, show tR r2 4 = r3 from b3] at T3
  have zz : (bs (List.replicate 512 0)).size ≤ 512 := by rw [bs_size, List.length_replicate]; omega
  have HRP := Lib.hid (fun w => repeat_any 512 (by omega) w)
  have zq : 6 ≤ (d ++ bs (List.replicate 512 0)).size := by rw [ByteArray.size_append, bs_size, List.length_replicate]; omega
  obtain ⟨Z, hZ⟩ : ∃ Z, bs (List.replicate 512 0) = Z := ⟨_, rfl⟩
  rw [hZ] at HRP zz zq h0
  have HX0 := Lib.hid h0
  have HU1 := Lib.hid (u32_same l1)
  have HU3 := Lib.hid (u32_same l3)
  have hl32 : (r3.data.toList.take 32).length = 32 := by rw [List.length_take, szl]; omega
  have HCP := Lib.hid (cur_copied n1 n2 n3 _ hl32)
  have HCI := Lib.hid (infoSa (s := ⟨n1, n2, n3, r3.data.toList.take 32⟩) hl32)
  have HCO := Lib.hid (all_of_one (esS_one ⟨n1, n2, n3, r3.data.toList.take 32⟩))
  have HCZ := Lib.hid (zS_size.trans (show 35 = (esS ⟨n1, n2, n3, r3.data.toList.take 32⟩).toArray.size by rw [List.size_toArray, esS_len hl32]))
  rw [ht]
  unfold vS
  obtain ⟨C, hC⟩ : ∃ C, (esS ⟨n1, n2, n3, r3.data.toList.take 32⟩).toArray = C := ⟨_, rfl⟩
  rw [hC] at HCP HCI HCO HCZ ⊢
  clear hC ht a1 b1 a2 b2 a3 b3 hZ h0 hl32 l1 l2 l3
  have R0 := Lib.hid (heap_alloc_new w (.cells zS 44))
  have B0 := Lib.hid ((Below.refl w.heap.size w).alloc (Nat.le_refl _) (.cells zS 44))
  have l0 : w.heap.size < (w.alloc (.cells zS 44)).heap.size := by simp
  go_enter Tryz.func60, Tryz.ntmps60
  go_wp2_with fail
  generalize w.alloc _ = W at *
  refine (HRP.out _).mono ?_
  rintro e w1 ⟨rfl, hb⟩
  have R1 := Lib.hid ((hb.block _ l0).trans R0.out)
  have B1 := Lib.hid (B0.out.trans (hb.mono B0.out.size))
  have l1 := Nat.lt_of_lt_of_le l0 hb.size
  clear hb R0 B0 l0 HRP
  have x0 : (d ++ Z).extract 6 (d.size + Z.size) = r0 := by rw [← ByteArray.size_append]; exact HX0.out
  have zs : (d ++ Z).size ≤ 140737488351744 := by rw [ByteArray.size_append]; omega
  have zp : d.size + Z.size ≤ 140737488351744 := by omega
  go_wp2_with fail
  clear x0
  (with_reducible refine (T1.out _).mono ?_)
  rintro e w2 ⟨rfl, hb⟩
  have R2 := Lib.hid ((hb.block _ l1).trans R1.out)
  have B2 := Lib.hid (B1.out.trans (hb.mono B1.out.size))
  have l2 := Nat.lt_of_lt_of_le l1 hb.size
  clear hb R1 B1 l1
  go_wp2_with fail
  (with_reducible refine (T2.out _).mono ?_)
  rintro e w3 ⟨rfl, hb⟩
  have R3 := Lib.hid ((hb.block _ l2).trans R2.out)
  have B3 := Lib.hid (B2.out.trans (hb.mono B2.out.size))
  have l3 := Nat.lt_of_lt_of_le l2 hb.size
  clear hb R2 B2 l2
  go_wp2_with fail
  (with_reducible refine (T3.out _).mono ?_)
  rintro e w4 ⟨rfl, hb⟩
  have R4 := Lib.hid ((hb.block _ l3).trans R3.out)
  have B4 := Lib.hid (B3.out.trans (hb.mono B3.out.size))
  have l4 := Nat.lt_of_lt_of_le l3 hb.size
  clear hb R3 B3 l3 T1 T2 T3
  have u1 := HU1.out
  have u3 := HU3.out
  go_wp2_with (first
    | (refine wpList_fresh rfl 44 (.tmp 7) (.tmp 32) rfl #[.int .u32 (n1 : Int), .int .u64 (n2 : Int), .int .u32 (n3 : Int), .int .u8 0, .int .u8 0, .int .u8 0, .int .u8 0, .int .u8 0, .int .u8 0, .int .u8 0, .int .u8 0, .int .u8 0, .int .u8 0, .int .u8 0, .int .u8 0, .int .u8 0, .int .u8 0, .int .u8 0, .int .u8 0, .int .u8 0, .int .u8 0, .int .u8 0, .int .u8 0, .int .u8 0, .int .u8 0, .int .u8 0, .int .u8 0, .int .u8 0, .int .u8 0, .int .u8 0, .int .u8 0, .int .u8 0, .int .u8 0, .int .u8 0, .int .u8 0] zS 44 rfl rfl (infoCur n1 n2 n3) rfl (cur_one n1 n2 n3) ?_; intro w5 hb hrow hsz; have R5 := Lib.hid ((hb.block _ l4).trans R4.out); have Q5 := Lib.hid hrow; have B5 := Lib.hid (B4.out.trans (hb.mono B4.out.size)); clear u1 u3 hb hrow hsz)
    | (refine wpList_copy_long rfl (.tmp 34) (.tmp 35) 54 9 rfl 5 Tryz.underlying54 info8s w4.heap.size 3 32 32 rfl r3 rfl #[.int .u32 (n1 : Int), .int .u64 (n2 : Int), .int .u32 (n3 : Int), .int .u8 0, .int .u8 0, .int .u8 0, .int .u8 0, .int .u8 0, .int .u8 0, .int .u8 0, .int .u8 0, .int .u8 0, .int .u8 0, .int .u8 0, .int .u8 0, .int .u8 0, .int .u8 0, .int .u8 0, .int .u8 0, .int .u8 0, .int .u8 0, .int .u8 0, .int .u8 0, .int .u8 0, .int .u8 0, .int .u8 0, .int .u8 0, .int .u8 0, .int .u8 0, .int .u8 0, .int .u8 0, .int .u8 0, .int .u8 0, .int .u8 0, .int .u8 0] 44 Q5.out z3 (show 3 + 32 ≤ 35 from Nat.le_refl _) C HCP.out ?_; have Q6 := Lib.hid (setRow_heap' (cs := C) Q5.out); have R6 := Lib.hid ((setRow_other w5 w4.heap.size w.heap.size C (Nat.ne_of_lt l4)).trans R5.out); have B6 := Lib.hid (below_setRow B5.out (Nat.le_of_lt l4) C); generalize w5.setRow w4.heap.size C = w6 at *)
    | (refine wpList_load_row rfl 44 (.tmp 7) rfl w4.heap.size rfl 44 C (0, 0) _ Q6.out Tryz.underlying44 rfl HCI.out ?_)
    | (refine wpList_store_row rfl 44 (.tmp 2) (.tmp 37) rfl w.heap.size C rfl rfl 44 zS R6.out HCI.out HCZ.out HCO.out ?_))
  have hg2 := setRow_heap' (cs := C) R6.out
  have B7 := below_setRow B6.out (Nat.le_refl _) C
  refine bodyPost_ret (v := .agg C) (results_cell_row rfl _ _ w.heap.size 44 C (0, 0) _ rfl hg2 Tryz.underlying44 rfl HCI.out) rfl ?_
  exact ⟨rfl, B7⟩
end Go.Proofs.YtlchjohaacbkpaaGreatDoor.Sp
