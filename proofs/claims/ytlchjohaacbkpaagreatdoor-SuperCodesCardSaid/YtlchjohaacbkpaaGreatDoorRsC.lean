/- The walk of the law SuperCodes. -/
import Derived.Test.YtlchjohaacbkpaaGreatDoorRsB
import Derived.Test.YtlchjohaacbkpaaGreatDoorSuP
import Derived.Test.YtlchjohaacbkpaaGreatDoorSuF
namespace Go.Proofs.YtlchjohaacbkpaaGreatDoor.Sa
set_option linter.unusedVariables false
set_option linter.unusedSimpArgs false
open Go.ChangeShapes Go.WideShapes Go.ChangeAt Go.RowKit
open Sp Nd Rs Rg Ar
open BigFrame
open Pk (be num be_length u8s u8s_length)
set_option maxRecDepth 100000 in
set_option maxHeartbeats 8000000 in
theorem superCodes_walk (w : World) (p : Su) (hl : p.lim) (d : ByteArray) (hd : d.size ≤ 140737488351232) :
    Calls Tryz.prog 4 #[vS p, .string d] w fun e w' => e = .returned (.bool true) ∧ Below w.heap.size w w' := by
  have HL := Lib.hid (fun w => lives_su w)
  have E1 := Lib.hid (fun w => encode_su p hl w)
  have E2 := Lib.hid (fun w => rencode_su p hl w)
  have D1 := Lib.hid (fun w => decode_su d hd w)
  have D2 := Lib.hid (fun w => rdecode_su d hd w)
  have K1 := Lib.hid (fun w => check_su p w)
  have K2 := Lib.hid (fun w => rcheck_su p w)
  have S1 := Lib.hid (fun w => slot_any p w)
  have S2 := Lib.hid (fun w => rslot_any p w)
  have EQ := Lib.hid (fun w => eq_super (deV d) (deV d) (deV_lim d).2.2.2 (deV_lim d).2.2.2 w)
  rw [(eqS_iff (deV d) (deV d)).2 rfl, enc_tk] at EQ
  rw [enc_tk] at D1 D2
  have hvp : vS p = .agg (Ss.enc p).toArray := by unfold vS; rw [Ss.enc_of hl.2.2.2]
  rw [hvp] at E1 E2 K1 K2 S1 S2 ⊢
  have HCI := Lib.hid (infoSe p)
  have HDI := Lib.hid (infoSe (deV d))
  have HDZ := Lib.hid (encS_sz (deV d))
  have HDO := Lib.hid (all_oneCell_toArray (Ss.enc_one (deV d)))
  clear hvp hl hd
  generalize (Ss.enc p).toArray = C at *
  generalize (Ss.enc (deV d)).toArray = D at *
  generalize enS p = a at *
  generalize chS p = x at *
  generalize deX d = u at *
  generalize slotS p = s1 at *
  have R0 := Lib.hid (heap_alloc_new w (.cells C 44))
  have B0 := Lib.hid ((Below.refl w.heap.size w).alloc (Nat.le_refl _) (.cells C 44))
  go_enter Tryz.func4, Tryz.ntmps4
  go_wp2_with (refine wpList_load_row rfl 44 (.tmp 2) rfl w.heap.size rfl 44 C (0, 0) _ R0.out Tryz.underlying44 rfl HCI.out ?_)
  generalize w.alloc _ = W at *
  refine (E1.out _).mono ?_
  rintro e w1 ⟨rfl, hb⟩
  have R1 := Lib.hid ((hb.block _ (row_lt R0.out)).trans R0.out)
  have B1 := Lib.hid (B0.out.trans (hb.mono B0.out.size))
  clear hb R0 B0 E1
  go_wp2_with (refine wpList_load_row rfl 44 (.tmp 2) rfl w.heap.size rfl 44 C (0, 0) _ R1.out Tryz.underlying44 rfl HCI.out ?_)
  refine (E2.out _).mono ?_
  rintro e w2 ⟨rfl, hb⟩
  have R2 := Lib.hid ((hb.block _ (row_lt R1.out)).trans R1.out)
  have B2 := Lib.hid (B1.out.trans (hb.mono B1.out.size))
  clear hb R1 B1 E2
  go_wp2_with fail
  refine (D1.out _).mono ?_
  rintro e w3 ⟨rfl, hb⟩
  have R3 := Lib.hid ((hb.block _ (row_lt R2.out)).trans R2.out)
  have B3 := Lib.hid (B2.out.trans (hb.mono B2.out.size))
  clear hb R2 B2 D1
  go_wp2_with (refine wpList_fresh rfl 44 (.tmp 9) (.tmp 26) rfl D zS 44 rfl rfl HDI.out HDZ.out HDO.out ?_; intro w4 hb hr hz; have R4 := Lib.hid ((hb.block _ (row_lt R3.out)).trans R3.out); have Q4 := Lib.hid hr; have B4 := Lib.hid (B3.out.trans (hb.mono B3.out.size)); clear hb hr hz R3 B3)
  refine (D2.out _).mono ?_
  rintro e w5 ⟨rfl, hb⟩
  have R5 := Lib.hid ((hb.block _ (row_lt R4.out)).trans R4.out)
  have Q5 := Lib.hid ((hb.block _ (row_lt Q4.out)).trans Q4.out)
  have B5 := Lib.hid (B4.out.trans (hb.mono B4.out.size))
  clear hb R4 Q4 B4 D2
  go_wp2_with (refine wpList_fresh rfl 44 (.tmp 11) (.tmp 31) rfl D zS 44 rfl rfl HDI.out HDZ.out HDO.out ?_; intro w6 hb hr hz; have R6 := Lib.hid ((hb.block _ (row_lt R5.out)).trans R5.out); have Q6 := Lib.hid ((hb.block _ (row_lt Q5.out)).trans Q5.out); have P6 := Lib.hid hr; have B6 := Lib.hid (B5.out.trans (hb.mono B5.out.size)); clear hb hr hz R5 Q5 B5)
  have k0 := row_lt R6.out
  have k1 := row_lt Q6.out
  have k2 := row_lt P6.out
  refine wp_region_G (fun w' => Below w6.heap.size w6 w') (by kernel_rfl) (by kernel_rfl) (Below.refl _ _).drew ?_
  refine wpG_call (.bool true) 30 #[] rfl (by rfl) (fun w' => by go_simp) (fun w' hSw => (HL.out w').mono fun e w2 h => ⟨h.1, hSw.trans (h.2.mono hSw.size)⟩) ?_
  simp only [List.setIfInBounds_toArray, List.set_cons_zero, List.set_cons_succ]
  refine wpG_val (.bool true) rfl (by rfl) (fun w' hSw => by go_simp) ?_
  simp only [List.setIfInBounds_toArray, List.set_cons_zero, List.set_cons_succ]
  refine wpG_val (.string a) rfl (by rfl) (fun w' hSw => by go_simp) ?_
  simp only [List.setIfInBounds_toArray, List.set_cons_zero, List.set_cons_succ]
  refine wpG_val (.string a) rfl (by rfl) (fun w' hSw => by go_simp) ?_
  simp only [List.setIfInBounds_toArray, List.set_cons_zero, List.set_cons_succ]
  refine wpG_val (.bool true) rfl (by rfl) (fun w' hSw => by go_simp) ?_
  simp only [List.setIfInBounds_toArray, List.set_cons_zero, List.set_cons_succ]
  refine wpG_val (.bool true) rfl (by rfl) (fun w' hSw => by go_simp) ?_
  simp only [List.setIfInBounds_toArray, List.set_cons_zero, List.set_cons_succ]
  refine wpG_val (.bool true) rfl (by rfl) (fun w' hSw => by go_simp) ?_
  simp only [List.setIfInBounds_toArray, List.set_cons_zero, List.set_cons_succ]
  refine wpG_val (.int .i64 x) rfl (by rfl) (fun w' hSw => by go_simp) ?_
  simp only [List.setIfInBounds_toArray, List.set_cons_zero, List.set_cons_succ]
  refine wpG_val (.int .i64 x) rfl (by rfl) (fun w' hSw => by go_simp) ?_
  simp only [List.setIfInBounds_toArray, List.set_cons_zero, List.set_cons_succ]
  refine wpG_val (.bool true) rfl (by rfl) (fun w' hSw => by go_simp) ?_
  simp only [List.setIfInBounds_toArray, List.set_cons_zero, List.set_cons_succ]
  refine wpG_val (.bool true) rfl (by rfl) (fun w' hSw => by go_simp) ?_
  simp only [List.setIfInBounds_toArray, List.set_cons_zero, List.set_cons_succ]
  refine wpG_val (.bool true) rfl (by rfl) (fun w' hSw => by go_simp) ?_
  simp only [List.setIfInBounds_toArray, List.set_cons_zero, List.set_cons_succ]
  refine wpG_val (.agg D) rfl (by rfl) (fun w' hSw => by have r := (hSw.block _ k1).trans Q6.out; exact row_run' 44 rfl w3.heap.size rfl _ _ (0, 0) _ r Tryz.underlying44 rfl HDI.out) ?_
  simp only [List.setIfInBounds_toArray, List.set_cons_zero, List.set_cons_succ]
  refine wpG_val (.agg D) rfl (by rfl) (fun w' hSw => by have r := (hSw.block _ k2).trans P6.out; exact row_run' 44 rfl w5.heap.size rfl _ _ (0, 0) _ r Tryz.underlying44 rfl HDI.out) ?_
  simp only [List.setIfInBounds_toArray, List.set_cons_zero, List.set_cons_succ]
  refine wpG_val (.bool true) rfl (by rfl) (fun w' hSw => by have h := EQ.out; have g := guardS; go_simp) ?_
  simp only [List.setIfInBounds_toArray, List.set_cons_zero, List.set_cons_succ]
  refine wpG_val (.bool true) rfl (by rfl) (fun w' hSw => by go_simp) ?_
  simp only [List.setIfInBounds_toArray, List.set_cons_zero, List.set_cons_succ]
  refine wpG_val (.bool true) rfl (by rfl) (fun w' hSw => by go_simp) ?_
  simp only [List.setIfInBounds_toArray, List.set_cons_zero, List.set_cons_succ]
  refine wpG_val (.int .i64 u) rfl (by rfl) (fun w' hSw => by go_simp) ?_
  simp only [List.setIfInBounds_toArray, List.set_cons_zero, List.set_cons_succ]
  refine wpG_val (.int .i64 u) rfl (by rfl) (fun w' hSw => by go_simp) ?_
  simp only [List.setIfInBounds_toArray, List.set_cons_zero, List.set_cons_succ]
  refine wpG_val (.bool true) rfl (by rfl) (fun w' hSw => by go_simp) ?_
  simp only [List.setIfInBounds_toArray, List.set_cons_zero, List.set_cons_succ]
  refine wpG_val (.bool true) rfl (by rfl) (fun w' hSw => by go_simp) ?_
  simp only [List.setIfInBounds_toArray, List.set_cons_zero, List.set_cons_succ]
  refine wpG_val (.bool true) rfl (by rfl) (fun w' hSw => by go_simp) ?_
  simp only [List.setIfInBounds_toArray, List.set_cons_zero, List.set_cons_succ]
  refine wpG_val (.agg C) rfl (by rfl) (fun w' hSw => by have r := (hSw.block _ k0).trans R6.out; exact row_run' 44 rfl w.heap.size rfl _ _ (0, 0) _ r Tryz.underlying44 rfl HCI.out) ?_
  simp only [List.setIfInBounds_toArray, List.set_cons_zero, List.set_cons_succ]
  refine wpG_call (.int .i64 x) 31 #[.agg C] rfl (by rfl) (fun w' => by go_simp) (fun w' hSw => (K1.out w').mono fun e w2 h => ⟨h.1, hSw.trans (h.2.mono hSw.size)⟩) ?_
  simp only [List.setIfInBounds_toArray, List.set_cons_zero, List.set_cons_succ]
  refine wpG_val (.agg C) rfl (by rfl) (fun w' hSw => by have r := (hSw.block _ k0).trans R6.out; exact row_run' 44 rfl w.heap.size rfl _ _ (0, 0) _ r Tryz.underlying44 rfl HCI.out) ?_
  simp only [List.setIfInBounds_toArray, List.set_cons_zero, List.set_cons_succ]
  refine wpG_call (.int .i64 x) 32 #[.agg C] rfl (by rfl) (fun w' => by go_simp) (fun w' hSw => (K2.out w').mono fun e w2 h => ⟨h.1, hSw.trans (h.2.mono hSw.size)⟩) ?_
  simp only [List.setIfInBounds_toArray, List.set_cons_zero, List.set_cons_succ]
  refine wpG_val (.bool true) rfl (by rfl) (fun w' hSw => by go_simp) ?_
  simp only [List.setIfInBounds_toArray, List.set_cons_zero, List.set_cons_succ]
  refine wpG_val (.bool true) rfl (by rfl) (fun w' hSw => by go_simp) ?_
  simp only [List.setIfInBounds_toArray, List.set_cons_zero, List.set_cons_succ]
  refine wpG_val (.bool true) rfl (by rfl) (fun w' hSw => by go_simp) ?_
  simp only [List.setIfInBounds_toArray, List.set_cons_zero, List.set_cons_succ]
  refine wpG_val (.agg C) rfl (by rfl) (fun w' hSw => by have r := (hSw.block _ k0).trans R6.out; exact row_run' 44 rfl w.heap.size rfl _ _ (0, 0) _ r Tryz.underlying44 rfl HCI.out) ?_
  simp only [List.setIfInBounds_toArray, List.set_cons_zero, List.set_cons_succ]
  refine wpG_call (.int .i64 (s1 : Int)) 33 #[.agg C] rfl (by rfl) (fun w' => by go_simp) (fun w' hSw => (S1.out w').mono fun e w2 h => ⟨h.1, hSw.trans (h.2.mono hSw.size)⟩) ?_
  simp only [List.setIfInBounds_toArray, List.set_cons_zero, List.set_cons_succ]
  refine wpG_val (.agg C) rfl (by rfl) (fun w' hSw => by have r := (hSw.block _ k0).trans R6.out; exact row_run' 44 rfl w.heap.size rfl _ _ (0, 0) _ r Tryz.underlying44 rfl HCI.out) ?_
  simp only [List.setIfInBounds_toArray, List.set_cons_zero, List.set_cons_succ]
  refine wpG_call (.int .i64 (s1 : Int)) 34 #[.agg C] rfl (by rfl) (fun w' => by go_simp) (fun w' hSw => (S2.out w').mono fun e w2 h => ⟨h.1, hSw.trans (h.2.mono hSw.size)⟩) ?_
  simp only [List.setIfInBounds_toArray, List.set_cons_zero, List.set_cons_succ]
  refine wpG_val (.bool true) rfl (by rfl) (fun w' hSw => by go_simp) ?_
  simp only [List.setIfInBounds_toArray, List.set_cons_zero, List.set_cons_succ]
  refine wpG_val (.bool true) rfl (by rfl) (fun w' hSw => by go_simp) ?_
  simp only [List.setIfInBounds_toArray, List.set_cons_zero, List.set_cons_succ]
  refine wpG_val (.bool true) rfl (by rfl) (fun w' hSw => by go_simp) ?_
  simp only [List.setIfInBounds_toArray, List.set_cons_zero, List.set_cons_succ]
  refine wpG_nil ?_
  intro wS hSw
  go_wp2
  go_ret
  exact ⟨rfl, B6.out.trans (hSw.mono B6.out.size)⟩
end Go.Proofs.YtlchjohaacbkpaaGreatDoor.Sa
