/- The walk of the law that a text, sealed with its hash's digits and the sum of both, is taken apart as it was put. -/
import Derived.Test.YtglciacjfoimlaaDoorHashW
import Derived.Test.YtglciacjfoimlaaDoorHexS
import Derived.Test.YtglciacjfoimlaaDoorDoorT
namespace Go.Proofs.YtglciacjfoimlaaDoor.Se
set_option linter.unusedVariables false
open Go.ChangeShapes Go.WideShapes Go.ChangeAt Go.RowKit
open Pk (u8s u8s_length xB xE xB_size xE_ok xE_no uT uR uE uT_back uR_back uE_back nB nE tN tR tE crc psum_any text_any taketext_any take_any number_any below_step bs)
open Hk (Row kc first hashOf hash_length sum_lit row_below abc_facts abc_data)
open Hc (hexL hexL_length hex_same parse_any pA_hex pE_hex run_index_at alloc_run arr_row Z32 At old_row setRow_heap' below_setRow equal_arr guard32 range_below)
open Rg
variable {tK tS : TypeId}
set_option maxRecDepth 100000 in
set_option maxHeartbeats 1000000 in
theorem begins_any (w : World) (hR : Row w 1 tK kc) (hR0 : Row w 0 tS first.list) :
    Calls Tryd.prog 8 #[] w fun e w' => e = .returned (.bool true) ∧ Below w.heap.size w w' := by
  have RK := Lib.hid hR
  have RF := Lib.hid hR0
  clear hR hR0
  have hc : ∀ w : World, Calls Tryd.prog 12 #[.string ⟨#[49, 50, 51, 52, 53, 54, 55, 56, 57]⟩] w fun e w' => e = .returned (.int .u32 806403967) ∧ Below w.heap.size w w' := by
    intro w
    have := psum_any ⟨#[49, 50, 51, 52, 53, 54, 55, 56, 57]⟩ w (by decide)
    rw [show crc (⟨#[49, 50, 51, 52, 53, 54, 55, 56, 57]⟩ : ByteArray).data.toList = 806403967#32 from Pk.crc_digits] at this
    exact this
  have HC := Lib.hid hc
  clear hc
  go_enter Tryd.func8, Tryd.ntmps8
  go_wp2_with fail
  (go_at_call 12; refine (HC.out _).mono ?_; rintro e w1 ⟨rfl, hb1⟩)
  have B1 := Lib.hid hb1
  clear hb1
  go_wp2_with fail
  (go_at_call 6; (with_reducible refine (sum_lit _ (by decide) _ (row_below RK.out B1.out RK.out.lt) (row_below RF.out B1.out RF.out.lt)).mono ?_); rintro e w2 ⟨C, hC, rfl, hb2⟩)
  rw [abc_data] at hC
  have hix := run_index_at hC (hash_length _) 0 186 abc_facts.1
  have HCC := Lib.hid hC
  have B2 := Lib.hid (B1.out.trans (hb2.mono B1.out.size))
  clear hC hb2
  have hix0 : ∀ w, (Instr.index 23 (.agg C) (.int .i64 0)).run Tryd.prog w = .ok (.int .u8 186) w := hix
  clear hix
  go_wp2
  go_ret
  exact ⟨rfl, B2.out⟩
theorem u8_of {k : Int} (h : (Lit.int .u8 k).wf = true) : 0 ≤ k ∧ k ≤ 255 := by
  simp [Lit.wf, IntKind.min, IntKind.max, IntKind.bits, IntKind.signed] at h
  omega
set_option maxRecDepth 100000 in
set_option maxHeartbeats 2000000 in
theorem sealed_long (t : ByteArray) (a b : Int) (ht : t.size ≤ 140737488351232) (hl : ¬ t.size ≤ 65535) (w : World) (hR : Row w 1 tK kc) (hR0 : Row w 0 tS first.list) :
    Calls Tryd.prog 4 #[.string t, .int .i64 a, .int .u8 b] w fun e w' => e = .returned (.bool true) ∧ Below w.heap.size w w' := by
  have RK := Lib.hid hR
  have RF := Lib.hid hR0
  clear hR hR0
  have e1 := xE_no hl
  have hgt : 65535 < t.size := by omega
  obtain ⟨D, hD⟩ : ∃ D : ByteArray, D = ⟨(hexL (hashOf t.data.toList)).toArray⟩ := ⟨_, rfl⟩
  have HD := Lib.hid hD
  have HT := Lib.hid (fun w => text_any t w)
  have HX := Lib.hid (fun w => text_any D w)
  clear hD hl
  go_enter Tryd.func4, Tryd.ntmps4
  go_wp2_with fail
  (go_at_call 8; (with_reducible refine (begins_any _ RK.out RF.out).mono ?_); rintro e w1 ⟨rfl, hb1⟩)
  have B1 := Lib.hid hb1
  clear hb1
  go_wp2_with fail
  (go_at_call 9; refine (HT.out _).mono ?_; rintro e w2 ⟨rfl, hb2⟩)
  have B2 := Lib.hid (B1.out.trans (hb2.mono B1.out.size))
  clear hb2 B1
  rw [e1]
  go_wp2_with fail
  (go_at_call 6; (with_reducible refine (sum_lit t ht _ (row_below RK.out B2.out RK.out.lt) (row_below RF.out B2.out RF.out.lt)).mono ?_); rintro e w3 ⟨C, hC, rfl, hb3⟩)
  have B3 := Lib.hid (B2.out.trans (hb3.mono B2.out.size))
  have HC := Lib.hid hC
  clear hb3 B2 hC
  go_wp2_with fail
  (go_at_call 10; (with_reducible refine (hex_same _ (hash_length _) C HC.out D HD.out _).mono ?_); rintro e w4 ⟨rfl, hb4⟩)
  have B4 := Lib.hid (B3.out.trans (hb4.mono B3.out.size))
  clear hb4 B3
  go_wp2_with fail
  (go_at_call 9; refine (HX.out _).mono ?_; rintro e w5 ⟨rfl, hb5⟩)
  have B5 := Lib.hid (B4.out.trans (hb5.mono B4.out.size))
  clear hb5 B4
  go_wp2
  go_ret
  exact ⟨by simp; omega, B5.out⟩
set_option maxRecDepth 100000 in
set_option maxHeartbeats 4000000 in
theorem sealed_short (t : ByteArray) (a b : Int) (hb : (Lit.int .u8 b).wf = true) (hl : t.size ≤ 65535) (w : World) (hR : Row w 1 tK kc) (hR0 : Row w 0 tS first.list) :
    Calls Tryd.prog 4 #[.string t, .int .i64 a, .int .u8 b] w fun e w' => e = .returned (.bool true) ∧ Below w.heap.size w w' := by
  have RK := Lib.hid hR
  have RF := Lib.hid hR0
  clear hR hR0
  have hbb := u8_of hb
  clear hb
  have e1 := xE_ok hl
  obtain ⟨D, hD⟩ : ∃ D : ByteArray, D = ⟨(hexL (hashOf t.data.toList)).toArray⟩ := ⟨_, rfl⟩
  have hDl : D.data.toList = hexL (hashOf t.data.toList) := by rw [hD]
  have zD : D.size = 64 := by rw [hD]; show (hexL (hashOf t.data.toList)).toArray.size = 64; rw [List.size_toArray, hexL_length, hash_length]
  have zD' : D.size ≤ 65535 := by omega
  have e2 := xE_ok zD'
  obtain ⟨X1, hX1⟩ : ∃ X, X = xB t := ⟨_, rfl⟩
  obtain ⟨X2, hX2⟩ : ∃ X, X = xB D := ⟨_, rfl⟩
  have zX1 : X1.size = t.size + 2 := by rw [hX1, xB_size hl]
  have zX2 : X2.size = 66 := by rw [hX2, xB_size zD']; omega
  obtain ⟨Wh, hW⟩ : ∃ X, X = X1 ++ X2 := ⟨_, rfl⟩
  have zW : Wh.size = t.size + 68 := by rw [hW, ByteArray.size_append]; omega
  obtain ⟨N, hN⟩ : ∃ N : Int, N = ((crc Wh.data.toList).toNat : Int) := ⟨_, rfl⟩
  have hN0 : 0 ≤ N := by rw [hN]; omega
  have hNlt := (crc Wh.data.toList).isLt
  have hN1 : N ≤ 4294967295 := by rw [hN]; omega
  obtain ⟨E4, hE4⟩ : ∃ X, X = nB (crc Wh.data.toList).toNat 4 := ⟨_, rfl⟩
  have hok : Pk.numOk (crc Wh.data.toList).toNat 4 = true := by
    rw [Pk.numOk_iff]
    exact ⟨by omega, by omega, by show (crc Wh.data.toList).toNat < 256 ^ 4; omega⟩
  have zE : E4.size = 4 := by have := Pk.nB_size hok; rw [← hE4] at this; omega
  obtain ⟨Y, hY⟩ : ∃ X, X = X2 ++ E4 := ⟨_, rfl⟩
  have zY : Y.size = 70 := by rw [hY, ByteArray.size_append]; omega
  obtain ⟨Z, hZ⟩ : ∃ X, X = Wh ++ E4 := ⟨_, rfl⟩
  have zZ : Z.size = t.size + 72 := by rw [hZ, ByteArray.size_append]; omega
  have hZ' : Z = X1 ++ Y := by rw [hZ, hW, hY, ByteArray.append_assoc]
  have HS := Lib.hid (fun w => show Calls Tryd.prog 12 #[.string Wh] w fun e w' => e = .returned (.int .u32 N) ∧ Below w.heap.size w w' from (psum_any Wh w (by omega)).mono fun _ _ h => ⟨by rw [h.1, hN]; rfl, h.2⟩)
  have HN := Lib.hid (fun w => show Calls Tryd.prog 11 #[.int .u64 N, .int .i64 4] w fun e w' => e = .returned (.tuple #[.string E4, .int .i64 0]) ∧ Below w.heap.size w w' from by
    rw [hN]
    exact (number_any (crc Wh.data.toList).toNat 4 w (by omega)).mono fun _ _ h => ⟨by rw [h.1, hE4, Pk.nE_ok hok], h.2⟩)
  have HT1 := Lib.hid (fun w => show Calls Tryd.prog 13 #[.string Z] w fun e w' => e = .returned (.tuple #[.string t, .string Y, .int .i64 0]) ∧ Below w.heap.size w w' from (taketext_any Z w (by unfold maxLen; omega)).mono fun _ _ h => ⟨by rw [h.1, hZ', hX1, uT_back hl, uR_back hl, uE_back hl], h.2⟩)
  have HT2 := Lib.hid (fun w => show Calls Tryd.prog 13 #[.string Y] w fun e w' => e = .returned (.tuple #[.string D, .string E4, .int .i64 0]) ∧ Below w.heap.size w w' from (taketext_any Y w (by unfold maxLen; omega)).mono fun _ _ h => ⟨by rw [h.1, hY, hX2, uT_back zD', uR_back zD', uE_back zD'], h.2⟩)
  have HT3 := Lib.hid (fun w => show Calls Tryd.prog 14 #[.string E4, .int .i64 4] w fun e w' => e = .returned (.tuple #[.int .u64 N, .string ByteArray.empty, .int .i64 0]) ∧ Below w.heap.size w w' from (take_any E4 4 w (by unfold maxLen; omega)).mono fun _ _ h => ⟨by
    have h1 := Pk.tN_back hok ByteArray.empty
    have h2 := Pk.tR_back hok ByteArray.empty
    have h3 := Pk.tE_back hok ByteArray.empty
    rw [Pk.append_empty, ← hE4] at h1 h2 h3
    rw [h.1, h1, h2, h3, hN], h.2⟩)
  have HP := Lib.hid (fun w => parse_any D (by unfold maxLen; omega) w)
  have HTX := Lib.hid (fun w => show Calls Tryd.prog 9 #[.string t] w fun e w' => e = .returned (.tuple #[.string X1, .int .i64 0]) ∧ Below w.heap.size w w' from (text_any t w).mono fun _ _ h => ⟨by rw [h.1, hX1, e1], h.2⟩)
  have HTD := Lib.hid (fun w => show Calls Tryd.prog 9 #[.string D] w fun e w' => e = .returned (.tuple #[.string X2, .int .i64 0]) ∧ Below w.heap.size w w' from (text_any D w).mono fun _ _ h => ⟨by rw [h.1, hX2, e2], h.2⟩)
  have HD := Lib.hid hD
  have HDL := Lib.hid hDl
  have HNN := Lib.hid hN
  have eW := hW.symm
  have eZ := hZ.symm
  have hcr := Pk.crc_turned
  have HCT := Lib.hid hcr
  clear hD hDl hX1 hX2 hW hN hE4 hok hY hZ hZ' e1 e2 zD' hNlt hcr
  go_enter Tryd.func4, Tryd.ntmps4
  go_wp2_with fail
  (go_at_call 8; (with_reducible refine (begins_any _ RK.out RF.out).mono ?_); rintro e w1 ⟨rfl, hb1⟩)
  have B1 := Lib.hid hb1
  clear hb1
  go_wp2_with fail
  (go_at_call 9; refine (HTX.out _).mono ?_; rintro e w2 ⟨rfl, hb2⟩)
  have B2 := Lib.hid (B1.out.trans (hb2.mono B1.out.size))
  clear hb2 B1
  go_wp2_with fail
  (go_at_call 6; (with_reducible refine (sum_lit t (by omega) _ (row_below RK.out B2.out RK.out.lt) (row_below RF.out B2.out RF.out.lt)).mono ?_); rintro e w3 ⟨C, hC, rfl, hb3⟩)
  have B3 := Lib.hid (B2.out.trans (hb3.mono B2.out.size))
  have HC := Lib.hid hC
  clear hb3 B2 hC
  go_wp2_with fail
  (go_at_call 10; (with_reducible refine (hex_same _ (hash_length _) C HC.out D HD.out _).mono ?_); rintro e w4 ⟨rfl, hb4⟩)
  have B4 := Lib.hid (B3.out.trans (hb4.mono B3.out.size))
  clear hb4 B3
  go_wp2_with fail
  (go_at_call 9; refine (HTD.out _).mono ?_; rintro e w5 ⟨rfl, hb5⟩)
  have B5 := Lib.hid (B4.out.trans (hb5.mono B4.out.size))
  clear hb5 B4
  go_wp2_with fail
  (go_at_call 12; refine (HS.out _).mono ?_; rintro e w6 ⟨rfl, hb6⟩)
  have B6 := Lib.hid (B5.out.trans (hb6.mono B5.out.size))
  clear hb6 B5
  go_wp2_with fail
  (go_at_call 11; refine (HN.out _).mono ?_; rintro e w7 ⟨rfl, hb7⟩)
  have B7 := Lib.hid (B6.out.trans (hb7.mono B6.out.size))
  clear hb7 B6
  go_wp2_with fail
  (go_at_call 13; refine (HT1.out _).mono ?_; rintro e w8 ⟨rfl, hb8⟩)
  have B8 := Lib.hid (B7.out.trans (hb8.mono B7.out.size))
  clear hb8 B7
  go_wp2_with fail
  (go_at_call 13; refine (HT2.out _).mono ?_; rintro e w9 ⟨rfl, hb9⟩)
  have B9 := Lib.hid (B8.out.trans (hb9.mono B8.out.size))
  clear hb9 B8
  go_wp2_with fail
  (go_at_call 14; refine (HT3.out _).mono ?_; rintro e wa ⟨rfl, hba⟩)
  have Ba := Lib.hid (B9.out.trans (hba.mono B9.out.size))
  clear hba B9
  go_wp2_with fail
  (go_at_call 15; refine (HP.out _).mono ?_; rintro e wb ⟨C2, hC2, rfl, hbb2⟩)
  have Bb := Lib.hid (Ba.out.trans (hbb2.mono Ba.out.size))
  rw [HDL.out, pA_hex (hash_length _), ← HC.out] at hC2
  rw [HDL.out, pE_hex (hash_length _)]
  subst hC2
  clear hbb2 Ba
  have HRC := Lib.hid (arr_row HC.out (hash_length _))
  go_wp2_with (first
    | (refine Go.Great.wpList_allocTo rfl (some 21) rfl _ _ (alloc_run _ _ rfl _) ?_)
    | (refine wpList_store_row rfl 23 (.tmp 21) (.tmp 76) rfl wb.heap.size C2 rfl rfl 23 Z32 (heap_alloc_new wb _) HRC.out.1 HRC.out.2.1 HRC.out.2.2 ?_; have AV := Lib.hid (show At ((wb.alloc (.cells Z32 23)).setRow wb.heap.size C2) wb.heap.size C2 from setRow_heap' (heap_alloc_new wb _)); have BV := Lib.hid (below_setRow (Bb.out.alloc Bb.out.size (.cells Z32 23)) Bb.out.size C2); change wpList _ _ _ _ _ ((wb.alloc (.cells Z32 23)).setRow wb.heap.size C2); generalize ((wb.alloc (.cells Z32 23)).setRow wb.heap.size C2) = V at *))
  have ra := AV.out.range
  have bb := BV.out
  have BW := Lib.hid BV.out
  clear AV BV Bb
  generalize hgd : wb.heap.size = gd at *
  have gu := Tryd.underlying23
  have gi1 : (Tryd.prog.info? 23).map (·.size) = some C2.toList.length := by rw [Array.length_toList]; exact HRC.out.1
  have hn1 : C2.toList.length = 32 := by rw [Array.length_toList, ← HRC.out.2.1]; rfl
  have hg := guard32
  have hq := equal_arr HC.out (hash_length _)
  refine wp_region_held_drew (S := fun w' => w'.rangeAt gd 0 C2.toList ∧ Below w.heap.size w w') (by kernel_rfl) ⟨ra, bb.drew⟩ (fun hHeld => ?_)
  refine take_at 0 78 (.int .i64 0) rfl (by rfl) (by kernel_rfl) (by kernel_rfl) (by kernel_rfl) (fun _ _ _ h => h) (Or.inl ⟨by rfl, fun w' hSw => by go_simp⟩) (by assumption) ?_
  simp only [List.setIfInBounds_toArray, List.set_cons_zero, List.set_cons_succ]
  refine take_at 1 79 (.bool false) rfl (by rfl) (by kernel_rfl) (by kernel_rfl) (by kernel_rfl) (fun _ _ _ h => h) (Or.inl ⟨by rfl, fun w' hSw => by go_simp⟩) (by assumption) ?_
  simp only [List.setIfInBounds_toArray, List.set_cons_zero, List.set_cons_succ]
  refine take_at 2 80 (.bool false) rfl (by rfl) (by kernel_rfl) (by kernel_rfl) (by kernel_rfl) (fun _ _ _ h => h) (Or.inl ⟨by rfl, fun w' hSw => by go_simp⟩) (by assumption) ?_
  simp only [List.setIfInBounds_toArray, List.set_cons_zero, List.set_cons_succ]
  refine take_at 3 81 (.int .i64 0) rfl (by rfl) (by kernel_rfl) (by kernel_rfl) (by kernel_rfl) (fun _ _ _ h => h) (Or.inl ⟨by rfl, fun w' hSw => by go_simp⟩) (by assumption) ?_
  simp only [List.setIfInBounds_toArray, List.set_cons_zero, List.set_cons_succ]
  refine take_at 4 82 (.bool false) rfl (by rfl) (by kernel_rfl) (by kernel_rfl) (by kernel_rfl) (fun _ _ _ h => h) (Or.inl ⟨by rfl, fun w' hSw => by go_simp⟩) (by assumption) ?_
  simp only [List.setIfInBounds_toArray, List.set_cons_zero, List.set_cons_succ]
  refine take_at 5 83 (.bool false) rfl (by rfl) (by kernel_rfl) (by kernel_rfl) (by kernel_rfl) (fun _ _ _ h => h) (Or.inl ⟨by rfl, fun w' hSw => by go_simp⟩) (by assumption) ?_
  simp only [List.setIfInBounds_toArray, List.set_cons_zero, List.set_cons_succ]
  refine take_at 6 84 (.bool false) rfl (by rfl) (by kernel_rfl) (by kernel_rfl) (by kernel_rfl) (fun _ _ _ h => h) (Or.inl ⟨by rfl, fun w' hSw => by go_simp⟩) (by assumption) ?_
  simp only [List.setIfInBounds_toArray, List.set_cons_zero, List.set_cons_succ]
  refine take_at 7 85 (.int .i64 0) rfl (by rfl) (by kernel_rfl) (by kernel_rfl) (by kernel_rfl) (fun _ _ _ h => h) (Or.inl ⟨by rfl, fun w' hSw => by go_simp⟩) (by assumption) ?_
  simp only [List.setIfInBounds_toArray, List.set_cons_zero, List.set_cons_succ]
  refine take_at 8 86 (.bool false) rfl (by rfl) (by kernel_rfl) (by kernel_rfl) (by kernel_rfl) (fun _ _ _ h => h) (Or.inl ⟨by rfl, fun w' hSw => by go_simp⟩) (by assumption) ?_
  simp only [List.setIfInBounds_toArray, List.set_cons_zero, List.set_cons_succ]
  refine take_at 9 87 (.bool false) rfl (by rfl) (by kernel_rfl) (by kernel_rfl) (by kernel_rfl) (fun _ _ _ h => h) (Or.inl ⟨by rfl, fun w' hSw => by go_simp⟩) (by assumption) ?_
  simp only [List.setIfInBounds_toArray, List.set_cons_zero, List.set_cons_succ]
  refine take_at 10 88 (.bool false) rfl (by rfl) (by kernel_rfl) (by kernel_rfl) (by kernel_rfl) (fun _ _ _ h => h) (Or.inl ⟨by rfl, fun w' hSw => by go_simp⟩) (by assumption) ?_
  simp only [List.setIfInBounds_toArray, List.set_cons_zero, List.set_cons_succ]
  refine take_at 11 89 (.string t) rfl (by rfl) (by kernel_rfl) (by kernel_rfl) (by kernel_rfl) (fun _ _ _ h => h) (Or.inl ⟨by rfl, fun w' hSw => by go_simp⟩) (by assumption) ?_
  simp only [List.setIfInBounds_toArray, List.set_cons_zero, List.set_cons_succ]
  refine take_at 12 90 (.string t) rfl (by rfl) (by kernel_rfl) (by kernel_rfl) (by kernel_rfl) (fun _ _ _ h => h) (Or.inl ⟨by rfl, fun w' hSw => by go_simp⟩) (by assumption) ?_
  simp only [List.setIfInBounds_toArray, List.set_cons_zero, List.set_cons_succ]
  refine take_at 13 91 (.bool false) rfl (by rfl) (by kernel_rfl) (by kernel_rfl) (by kernel_rfl) (fun _ _ _ h => h) (Or.inl ⟨by rfl, fun w' hSw => by go_simp⟩) (by assumption) ?_
  simp only [List.setIfInBounds_toArray, List.set_cons_zero, List.set_cons_succ]
  refine take_at 14 92 (.bool false) rfl (by rfl) (by kernel_rfl) (by kernel_rfl) (by kernel_rfl) (fun _ _ _ h => h) (Or.inl ⟨by rfl, fun w' hSw => by go_simp⟩) (by assumption) ?_
  simp only [List.setIfInBounds_toArray, List.set_cons_zero, List.set_cons_succ]
  refine take_at 15 93 (.bool false) rfl (by rfl) (by kernel_rfl) (by kernel_rfl) (by kernel_rfl) (fun _ _ _ h => h) (Or.inl ⟨by rfl, fun w' hSw => by go_simp⟩) (by assumption) ?_
  simp only [List.setIfInBounds_toArray, List.set_cons_zero, List.set_cons_succ]
  refine take_at 16 94 (.int .i64 0) rfl (by rfl) (by kernel_rfl) (by kernel_rfl) (by kernel_rfl) (fun _ _ _ h => h) (Or.inl ⟨by rfl, fun w' hSw => by go_simp⟩) (by assumption) ?_
  simp only [List.setIfInBounds_toArray, List.set_cons_zero, List.set_cons_succ]
  refine take_at 17 95 (.bool false) rfl (by rfl) (by kernel_rfl) (by kernel_rfl) (by kernel_rfl) (fun _ _ _ h => h) (Or.inl ⟨by rfl, fun w' hSw => by go_simp⟩) (by assumption) ?_
  simp only [List.setIfInBounds_toArray, List.set_cons_zero, List.set_cons_succ]
  refine take_at 18 96 (.bool false) rfl (by rfl) (by kernel_rfl) (by kernel_rfl) (by kernel_rfl) (fun _ _ _ h => h) (Or.inl ⟨by rfl, fun w' hSw => by go_simp⟩) (by assumption) ?_
  simp only [List.setIfInBounds_toArray, List.set_cons_zero, List.set_cons_succ]
  refine take_at 19 97 (.bool false) rfl (by rfl) (by kernel_rfl) (by kernel_rfl) (by kernel_rfl) (fun _ _ _ h => h) (Or.inl ⟨by rfl, fun w' hSw => by go_simp⟩) (by assumption) ?_
  simp only [List.setIfInBounds_toArray, List.set_cons_zero, List.set_cons_succ]
  refine take_at 20 98 (.int .i64 0) rfl (by rfl) (by kernel_rfl) (by kernel_rfl) (by kernel_rfl) (fun _ _ _ h => h) (Or.inl ⟨by rfl, fun w' hSw => by go_simp⟩) (by assumption) ?_
  simp only [List.setIfInBounds_toArray, List.set_cons_zero, List.set_cons_succ]
  refine take_at 21 99 (.bool false) rfl (by rfl) (by kernel_rfl) (by kernel_rfl) (by kernel_rfl) (fun _ _ _ h => h) (Or.inl ⟨by rfl, fun w' hSw => by go_simp⟩) (by assumption) ?_
  simp only [List.setIfInBounds_toArray, List.set_cons_zero, List.set_cons_succ]
  refine take_at 22 100 (.bool false) rfl (by rfl) (by kernel_rfl) (by kernel_rfl) (by kernel_rfl) (fun _ _ _ h => h) (Or.inl ⟨by rfl, fun w' hSw => by go_simp⟩) (by assumption) ?_
  simp only [List.setIfInBounds_toArray, List.set_cons_zero, List.set_cons_succ]
  refine take_at 23 101 (.bool false) rfl (by rfl) (by kernel_rfl) (by kernel_rfl) (by kernel_rfl) (fun _ _ _ h => h) (Or.inl ⟨by rfl, fun w' hSw => by go_simp⟩) (by assumption) ?_
  simp only [List.setIfInBounds_toArray, List.set_cons_zero, List.set_cons_succ]
  refine take_at 24 102 (.int .u64 N) rfl (by rfl) (by kernel_rfl) (by kernel_rfl) (by kernel_rfl) (fun _ _ _ h => h) (Or.inl ⟨by rfl, fun w' hSw => by go_simp⟩) (by assumption) ?_
  simp only [List.setIfInBounds_toArray, List.set_cons_zero, List.set_cons_succ]
  refine take_at 25 103 (.string Wh) rfl (by rfl) (by kernel_rfl) (by kernel_rfl) (by kernel_rfl) (fun _ _ _ h => h) (Or.inl ⟨by rfl, fun w' hSw => by go_simp⟩) (by assumption) ?_
  simp only [List.setIfInBounds_toArray, List.set_cons_zero, List.set_cons_succ]
  refine wpAnyH_ready (rs := [26]) (by kernel_rfl) (by simp) ?_
  refine AllReadyH.cons rfl (fun K hK => ?_) AllReadyH.nil
  go_simp
  go_wp2_with (go_at_call 12; refine (HS.out _).mono ?_; rintro e wc ⟨rfl, hb5⟩)
  refine hK.out _ _ ⟨range_below (by omega) hHeld.1 hb5, hHeld.2.trans (hb5.mono hHeld.2.size)⟩ (fun hHeld => ?_)
  clear hK K
  refine take_at 27 105 (.int .u64 N) rfl (by rfl) (by kernel_rfl) (by kernel_rfl) (by kernel_rfl) (fun _ _ _ h => h) (Or.inl ⟨by rfl, fun w' hSw => by go_simp <;> (rw [IntKind.wrap_u64]; omega)⟩) (by assumption) ?_
  simp only [List.setIfInBounds_toArray, List.set_cons_zero, List.set_cons_succ]
  refine take_at 28 106 (.bool false) rfl (by rfl) (by kernel_rfl) (by kernel_rfl) (by kernel_rfl) (fun _ _ _ h => h) (Or.inl ⟨by rfl, fun w' hSw => by go_simp⟩) (by assumption) ?_
  simp only [List.setIfInBounds_toArray, List.set_cons_zero, List.set_cons_succ]
  refine take_at 29 107 (.bool false) rfl (by rfl) (by kernel_rfl) (by kernel_rfl) (by kernel_rfl) (fun _ _ _ h => h) (Or.inl ⟨by rfl, fun w' hSw => by go_simp⟩) (by assumption) ?_
  simp only [List.setIfInBounds_toArray, List.set_cons_zero, List.set_cons_succ]
  refine take_at 30 108 (.bool false) rfl (by rfl) (by kernel_rfl) (by kernel_rfl) (by kernel_rfl) (fun _ _ _ h => h) (Or.inl ⟨by rfl, fun w' hSw => by go_simp⟩) (by assumption) ?_
  simp only [List.setIfInBounds_toArray, List.set_cons_zero, List.set_cons_succ]
  refine take_at 31 109 (.string ByteArray.empty) rfl (by rfl) (by kernel_rfl) (by kernel_rfl) (by kernel_rfl) (fun _ _ _ h => h) (Or.inl ⟨by rfl, fun w' hSw => by go_simp⟩) (by assumption) ?_
  simp only [List.setIfInBounds_toArray, List.set_cons_zero, List.set_cons_succ]
  refine take_at 32 110 (.bool false) rfl (by rfl) (by kernel_rfl) (by kernel_rfl) (by kernel_rfl) (fun _ _ _ h => h) (Or.inl ⟨by rfl, fun w' hSw => by go_simp⟩) (by assumption) ?_
  simp only [List.setIfInBounds_toArray, List.set_cons_zero, List.set_cons_succ]
  refine take_at 33 111 (.bool false) rfl (by rfl) (by kernel_rfl) (by kernel_rfl) (by kernel_rfl) (fun _ _ _ h => h) (Or.inl ⟨by rfl, fun w' hSw => by go_simp⟩) (by assumption) ?_
  simp only [List.setIfInBounds_toArray, List.set_cons_zero, List.set_cons_succ]
  refine take_at 34 112 (.bool false) rfl (by rfl) (by kernel_rfl) (by kernel_rfl) (by kernel_rfl) (fun _ _ _ h => h) (Or.inl ⟨by rfl, fun w' hSw => by go_simp⟩) (by assumption) ?_
  simp only [List.setIfInBounds_toArray, List.set_cons_zero, List.set_cons_succ]
  refine take_at 35 113 (.int .i64 0) rfl (by rfl) (by kernel_rfl) (by kernel_rfl) (by kernel_rfl) (fun _ _ _ h => h) (Or.inl ⟨by rfl, fun w' hSw => by go_simp⟩) (by assumption) ?_
  simp only [List.setIfInBounds_toArray, List.set_cons_zero, List.set_cons_succ]
  refine take_at 36 114 (.bool false) rfl (by rfl) (by kernel_rfl) (by kernel_rfl) (by kernel_rfl) (fun _ _ _ h => h) (Or.inl ⟨by rfl, fun w' hSw => by go_simp⟩) (by assumption) ?_
  simp only [List.setIfInBounds_toArray, List.set_cons_zero, List.set_cons_succ]
  refine take_at 37 115 (.bool false) rfl (by rfl) (by kernel_rfl) (by kernel_rfl) (by kernel_rfl) (fun _ _ _ h => h) (Or.inl ⟨by rfl, fun w' hSw => by go_simp⟩) (by assumption) ?_
  simp only [List.setIfInBounds_toArray, List.set_cons_zero, List.set_cons_succ]
  refine take_at 38 116 (.bool false) rfl (by rfl) (by kernel_rfl) (by kernel_rfl) (by kernel_rfl) (fun _ _ _ h => h) (Or.inl ⟨by rfl, fun w' hSw => by go_simp⟩) (by assumption) ?_
  simp only [List.setIfInBounds_toArray, List.set_cons_zero, List.set_cons_succ]
  refine take_at 39 117 (.agg C2.toList.toArray) rfl (by rfl) (by kernel_rfl) (by kernel_rfl) (by kernel_rfl) (fun _ _ _ h => h) (yieldsIf_load_mid (by rfl) _ _ rfl _ _ rfl C2.toList _ (fun w' hSw => hSw.1) gu rfl gi1) (by assumption) ?_
  simp only [List.setIfInBounds_toArray, List.set_cons_zero, List.set_cons_succ]
  simp only [Array.toArray_toList]
  refine take_at 40 118 (.string t) rfl (by rfl) (by kernel_rfl) (by kernel_rfl) (by kernel_rfl) (fun _ _ _ h => h) (Or.inl ⟨by rfl, fun w' hSw => by go_simp⟩) (by assumption) ?_
  simp only [List.setIfInBounds_toArray, List.set_cons_zero, List.set_cons_succ]
  refine wpAnyH_ready (rs := [41]) (by kernel_rfl) (by simp) ?_
  refine AllReadyH.cons rfl (fun K hK => ?_) AllReadyH.nil
  go_simp
  go_wp2_with (go_at_call 6; (with_reducible refine (sum_lit t (by omega) _ (row_below RK.out hHeld.2 RK.out.lt) (row_below RF.out hHeld.2 RF.out.lt)).mono ?_); rintro e wd ⟨C3, hC3, rfl, hb5⟩; rw [← HC.out] at hC3; subst hC3)
  refine hK.out _ _ ⟨range_below (by omega) hHeld.1 hb5, hHeld.2.trans (hb5.mono hHeld.2.size)⟩ (fun hHeld => ?_)
  clear hK K
  refine take_at 42 120 (.bool false) rfl (by rfl) (by kernel_rfl) (by kernel_rfl) (by kernel_rfl) (fun _ _ _ h => h) (Or.inl ⟨by rfl, fun w' hSw => by go_simp⟩) (by assumption) ?_
  simp only [List.setIfInBounds_toArray, List.set_cons_zero, List.set_cons_succ]
  refine take_at 43 121 (.bool false) rfl (by rfl) (by kernel_rfl) (by kernel_rfl) (by kernel_rfl) (fun _ _ _ h => h) (Or.inl ⟨by rfl, fun w' hSw => by go_simp⟩) (by assumption) ?_
  simp only [List.setIfInBounds_toArray, List.set_cons_zero, List.set_cons_succ]
  refine wpAnyH_done (by kernel_rfl) ?_ _
  have hfin := hHeld.2
  clear hHeld
  have HF := Lib.hid hfin
  clear hfin hq hg gu gi1 ra bb
  by_cases h0 : a < 0
  · go_wp2
    go_ret
    exact ⟨rfl, HF.out⟩
  · obtain ⟨i, rfl⟩ : ∃ d : Nat, a = d := ⟨a.toNat, by omega⟩
    by_cases h1 : i < Wh.size
    · obtain ⟨K, W2, hcv, hcells, hfr, hbel, hsz⟩ := Pk.bytes_of wd Wh
      have hci := hcells i h1
      have hfi := hfr i h1
      have HC1 := Lib.hid hcells
      clear hcells hfr
      obtain ⟨k, hk⟩ : ∃ k, k = (b % 8).toNat := ⟨_, rfl⟩
      have hk7 : k ≤ 7 := by omega
      have hv := Pk.turned_bit Wh[i] k hk7
      have hgi : Wh[i] = Wh.data.toList[i]'(by simpa using h1) := rfl
      have hne := HCT.out Wh.data.toList i (by simpa using h1) (UInt8.ofNat (2 ^ k)) (Pk.turned_ne k hk7)
      rw [← hgi] at hne
      obtain ⟨l, hll⟩ : ∃ l, l = Wh.data.toList.set i (Wh[i] ^^^ UInt8.ofNat (2 ^ k)) := ⟨_, rfl⟩
      have hcv2 := Pk.back_of (W2.setCell ⟨wd.heap.size, i, none⟩ (.int .u8 ((Wh[i] ^^^ UInt8.ofNat (2 ^ k)).toNat : Int))) wd.heap.size l K Wh.size (by rw [hll]; simp) (by
        subst hll
        exact Pk.set_cells W2 wd.heap.size Wh.data.toList i (by simpa using h1) _ (fun j hj => HC1.out j (by simpa using hj)))
      rw [← hv, hk, zW] at hcv2
      rw [← hll] at hne
      have hlen : l.length = Wh.size := by rw [hll]; simp
      obtain ⟨N2, hN2⟩ : ∃ N2 : Int, N2 = ((crc l).toNat : Int) := ⟨_, rfl⟩
      have hneq : (N2 != N) = true := by
        rw [bne_iff_ne, hN2, HNN.out]
        intro h
        exact hne (BitVec.eq_of_toNat_eq (by omega))
      have hN20 : 0 ≤ N2 := by rw [hN2]; omega
      have hN21 : N2 ≤ 4294967295 := by have := (crc l).isLt; rw [hN2]; omega
      have C1 := Lib.hid (fun w => show Calls Tryd.prog 12 #[.string (bs l)] w fun e w' => e = .returned (.int .u32 N2) ∧ Below w.heap.size w w' from (psum_any (bs l) w (by rw [Pk.bs_size, hlen]; omega)).mono fun _ _ h => ⟨by rw [h.1, hN2]; rfl, h.2⟩)
      clear hll hlen hne hgi hv hk7 hk hN2
      go_wp2_with fail
      (go_at_call 12; refine (C1.out _).mono ?_; rintro e w3 ⟨rfl, hb3⟩)
      go_wp2
      go_ret
      have hb5 := fun u => below_step HF.out (hbel.setCell (p := ⟨wd.heap.size, i, none⟩) (Nat.le_refl _) u)
      exact ⟨rfl, below_step (hb5 _) hb3⟩
    · have h2 : decide (Wh.size ≤ i) = true := by simp; omega
      have h3 : (Wh.size : Int) ≤ i := by omega
      have h4 : 0 ≤ (i : Int) := by omega
      go_wp2
      go_ret
      exact ⟨rfl, HF.out⟩
theorem topSealed_walk (t : ByteArray) (a b : Int) (ht : t.size ≤ 140737488351232) (hb : (Lit.int .u8 b).wf = true) (w : World) (hR : Row w 1 tK kc) (hR0 : Row w 0 tS first.list) :
    Calls Tryd.prog 4 #[.string t, .int .i64 a, .int .u8 b] w fun e w' => e = .returned (.bool true) ∧ Below w.heap.size w w' := by
  by_cases h : t.size ≤ 65535
  · exact sealed_short t a b hb h w hR hR0
  · exact sealed_long t a b ht h w hR hR0
end Go.Proofs.YtglciacjfoimlaaDoor.Se
