/- The document's own Check, Slot and Encode of superblocks (cambiumref09). -/
import Derived.Test.YtlchjohaacbkpaaGreatDoorNfG
import Derived.Test.YtlchjohaacbkpaaGreatDoorSuN
import Derived.Test.YtlchjohaacbkpaaGreatDoorZrg
namespace Go.Proofs.YtlchjohaacbkpaaGreatDoor.Rs
set_option linter.unusedVariables false
set_option linter.unusedSimpArgs false
open Go.ChangeShapes Go.WideShapes Go.ChangeAt Go.RowKit
open Sp Nd Nr Rg Ar
open BigFrame
open Pk (be num be_length u8s u8s_length)
theorem okS_iff (s : Su) : okS s = true ↔ 16 ≤ s.Z ∧ s.Z ≤ 65536 ∧ 1 ≤ s.G ∧ s.G ≤ 4611686018427387904 ∧ 2 ≤ s.T ∧ s.T < s.Z := by
  unfold okS
  simp only [Bool.and_eq_true, decide_eq_true_iff]
  omega
theorem rslot_any (s : Su) (w : World) :
    Calls Tryz.prog 34 #[vS s] w fun e w' => e = .returned (.int .i64 (slotS s : Nat)) ∧ Below w.heap.size w w' := by
  unfold vS slotS
  obtain ⟨C, hC⟩ : ∃ C, (esS s).toArray = C := ⟨_, rfl⟩
  have R0 := Lib.hid (heap_alloc_new w (.cells C 44))
  have B0 := Lib.hid ((Below.refl w.heap.size w).alloc (Nat.le_refl _) (.cells C 44))
  have c1 : (w.alloc (.cells C 44)).cell? ⟨w.heap.size, 1, none⟩ = some (.int .u64 s.G) := (cell_of_row _ _ 1 _ _ _ R0.out).trans (by rw [← hC]; exact esS_1 s)
  rw [hC]
  clear hC
  obtain ⟨Z, G, T, hs⟩ := s
  dsimp only at *
  have HM := Lib.hid (show ((G % 2 : Nat) : Int) = (G : Int) % 2 by omega)
  rw [HM.out]
  go_enter Tryz.func34, Tryz.ntmps34
  go_wp2
  go_ret
  exact ⟨rfl, B0.out⟩
set_option maxHeartbeats 4000000 in
theorem rcheck_su (s : Su) (w : World) :
    Calls Tryz.prog 32 #[vS s] w fun e w' => e = .returned (.int .i64 (chS s)) ∧ Below w.heap.size w w' := by
  unfold vS
  obtain ⟨C, hC⟩ : ∃ C, (esS s).toArray = C := ⟨_, rfl⟩
  have R0 := Lib.hid (heap_alloc_new w (.cells C 44))
  have B0 := Lib.hid ((Below.refl w.heap.size w).alloc (Nat.le_refl _) (.cells C 44))
  have c0 : (w.alloc (.cells C 44)).cell? ⟨w.heap.size, 0, none⟩ = some (.int .u32 s.Z) := (cell_of_row _ _ 0 _ _ _ R0.out).trans (by rw [← hC]; exact esS_0 s)
  have c1 : (w.alloc (.cells C 44)).cell? ⟨w.heap.size, 1, none⟩ = some (.int .u64 s.G) := (cell_of_row _ _ 1 _ _ _ R0.out).trans (by rw [← hC]; exact esS_1 s)
  have c2 : (w.alloc (.cells C 44)).cell? ⟨w.heap.size, 2, none⟩ = some (.int .u32 s.T) := (cell_of_row _ _ 2 _ _ _ R0.out).trans (by rw [← hC]; exact esS_2 s)
  rw [hC]
  clear hC R0
  have good : (16 ≤ s.Z ∧ s.Z ≤ 65536 ∧ 1 ≤ s.G ∧ s.G ≤ 4611686018427387904 ∧ 2 ≤ s.T ∧ s.T < s.Z) → chS s = 0 := fun h => (chS_yes ((okS_iff s).2 h)).1
  have bad : ¬ (16 ≤ s.Z ∧ s.Z ≤ 65536 ∧ 1 ≤ s.G ∧ s.G ≤ 4611686018427387904 ∧ 2 ≤ s.T ∧ s.T < s.Z) → chS s = 4 := fun h => (chS_no (by rw [Bool.eq_false_iff]; exact fun e => h ((okS_iff s).1 e))).1
  have H := Lib.hid (And.intro good bad)
  obtain ⟨Z, G, T, hs⟩ := s
  dsimp only at *
  by_cases h0 : Z < 16
  · have d0 : decide ((Z : Int) < 16) = true := by simp; omega
    have HQ := Lib.hid (H.out.2 (fun h => by omega) : chS ⟨Z, G, T, hs⟩ = 4)
    rw [HQ.out]
    clear HQ H h0
    go_enter Tryz.func32, Tryz.ntmps32
    go_wp2
    go_ret
    exact ⟨rfl, B0.out⟩
  · have d0 : decide ((Z : Int) < 16) = false := by simp; omega
    by_cases h1 : 65536 < Z
    · have d1 : decide (65536 < (Z : Int)) = true := by simp; omega
      have HQ := Lib.hid (H.out.2 (fun h => by omega) : chS ⟨Z, G, T, hs⟩ = 4)
      rw [HQ.out]
      clear HQ H h1
      go_enter Tryz.func32, Tryz.ntmps32
      go_wp2
      go_ret
      exact ⟨rfl, B0.out⟩
    · have d1 : decide (65536 < (Z : Int)) = false := by simp; omega
      by_cases h2 : G < 1
      · have d2 : decide ((G : Int) < 1) = true := by simp; omega
        have HQ := Lib.hid (H.out.2 (fun h => by omega) : chS ⟨Z, G, T, hs⟩ = 4)
        rw [HQ.out]
        clear HQ H h2
        go_enter Tryz.func32, Tryz.ntmps32
        go_wp2
        go_ret
        exact ⟨rfl, B0.out⟩
      · have d2 : decide ((G : Int) < 1) = false := by simp; omega
        by_cases h3 : 4611686018427387904 < G
        · have d3 : decide ((4611686018427387904 : Int) < (G : Int)) = true := by simp; omega
          have HQ := Lib.hid (H.out.2 (fun h => by omega) : chS ⟨Z, G, T, hs⟩ = 4)
          rw [HQ.out]
          clear HQ H h3
          go_enter Tryz.func32, Tryz.ntmps32
          go_wp2
          go_ret
          exact ⟨rfl, B0.out⟩
        · have d3 : decide ((4611686018427387904 : Int) < (G : Int)) = false := by simp; omega
          by_cases h4 : T < 2
          · have d4 : decide ((T : Int) < 2) = true := by simp; omega
            have HQ := Lib.hid (H.out.2 (fun h => by omega) : chS ⟨Z, G, T, hs⟩ = 4)
            rw [HQ.out]
            clear HQ H h4
            go_enter Tryz.func32, Tryz.ntmps32
            go_wp2
            go_ret
            exact ⟨rfl, B0.out⟩
          · have d4 : decide ((T : Int) < 2) = false := by simp; omega
            by_cases h6 : Z ≤ T
            · have d6 : decide (Z ≤ T) = true := by simp; omega
              have d6i : decide ((Z : Int) ≤ (T : Int)) = true := by simp; omega
              have HQ := Lib.hid (H.out.2 (fun h => by omega) : chS ⟨Z, G, T, hs⟩ = 4)
              rw [HQ.out]
              clear HQ h6 H
              go_enter Tryz.func32, Tryz.ntmps32
              go_wp2
              go_ret
              exact ⟨rfl, B0.out⟩
            · have d6 : decide (Z ≤ T) = false := by simp; omega
              have d6i : decide ((Z : Int) ≤ (T : Int)) = false := by simp; omega
              have HQ := Lib.hid (H.out.1 ⟨by omega, by omega, by omega, by omega, by omega, by omega⟩ : chS ⟨Z, G, T, hs⟩ = 0)
              rw [HQ.out]
              clear HQ h6 H
              go_enter Tryz.func32, Tryz.ntmps32
              go_wp2
              go_ret
              exact ⟨rfl, B0.out⟩
set_option maxRecDepth 100000 in
set_option maxHeartbeats 4000000 in
theorem rencode_su (s : Su) (hl : s.lim) (w : World) :
    Calls Tryz.prog 27 #[vS s] w fun e w' => e = .returned (.tuple #[.string (enS s), .int .i64 (chS s)]) ∧ Below w.heap.size w w' := by
  have HC := Lib.hid (fun w => rcheck_su s w)
  have hw50 := wS_len hl.2.2.2
  obtain ⟨q, hq⟩ : ∃ q, okS s = q := ⟨_, rfl⟩
  have HKN := Lib.hid (fun h : okS s = false => chS_no h)
  have HKY := Lib.hid (fun h : okS s = true => chS_yes h)
  rw [hq] at HKN HKY
  clear hq
  have c0' := esS_0 s
  have c1' := esS_1 s
  have c2' := esS_2 s
  have HROW := Lib.hid (fun (w' : World) (h : w'.heap[w.heap.size]? = some (.cells (esS s).toArray 44 (0, 0))) => (by
    have hr : w'.rangeAt w.heap.size 3 (u8s s.hs) := by
      intro j v hv
      rw [cell_of_row _ _ (3 + j) _ _ _ h]
      unfold esS
      rw [List.getElem?_toArray, show 3 + j = j + 1 + 1 + 1 by omega]
      simpa using hv
    exact conv_hash hl.2.2.2 hr : (convert 54 9 (.slice (some ⟨w.heap.size, 3, none⟩) 32 32)).run Tryz.prog w' = .ok (.string (bs s.hs)) w'))
  have HCI := Lib.hid (infoSa (s := s) hl.2.2.2)
  have B1 := Lib.hid (show ∀ w, Calls Tryz.prog 59 #[.int .u64 (s.Z : Nat), .int .i64 4] w fun e w' => e = .returned (.string (bs (be 4 s.Z))) ∧ Below w.heap.size w w' from fun w => Pk.ref_bytes s.Z 4 w (by have := hl.1; omega) (by omega))
  have B2 := Lib.hid (show ∀ w, Calls Tryz.prog 59 #[.int .u64 (s.G : Nat), .int .i64 8] w fun e w' => e = .returned (.string (bs (be 8 s.G))) ∧ Below w.heap.size w w' from fun w => Pk.ref_bytes s.G 8 w hl.2.1 (by omega))
  have B3 := Lib.hid (show ∀ w, Calls Tryz.prog 59 #[.int .u64 (s.T : Nat), .int .i64 4] w fun e w' => e = .returned (.string (bs (be 4 s.T))) ∧ Below w.heap.size w w' from fun w => Pk.ref_bytes s.T 4 w (by have := hl.2.2.1; omega) (by omega))
  have WH := Lib.hid (fun w => whole_any (bs (wS s)) (by rw [bs_size, hw50]; omega) w)
  rw [bs_data] at WH
  have e4 : (((⟨#[67, 66]⟩ ++ bs (be 4 s.Z)) ++ bs (be 8 s.G)) ++ bs (be 4 s.T)) ++ bs s.hs = bs (wS s) := by
    rw [show (⟨#[67, 66]⟩ : ByteArray) = bs [67, 66] from rfl, bs_app, bs_app, bs_app, bs_app, wS_eq]
    simp only [List.append_assoc]
  have U1 := Lib.hid (show IntKind.u64.wrap (s.Z : Int) = s.Z by have := hl.1; simp [IntKind.wrap, IntKind.bits, IntKind.signed]; omega)
  have U3 := Lib.hid (show IntKind.u64.wrap (s.T : Int) = s.T by have := hl.2.2.1; simp [IntKind.wrap, IntKind.bits, IntKind.signed]; omega)
  have z1 : (bs (be 4 s.Z)).size = 4 := by rw [bs_size, be_length]
  have z2 : (bs (be 8 s.G)).size = 8 := by rw [bs_size, be_length]
  have z3 : (bs (be 4 s.T)).size = 4 := by rw [bs_size, be_length]
  have z4 : (bs s.hs).size = 32 := by rw [bs_size]; exact hl.2.2.2
  unfold vS at HC ⊢
  obtain ⟨Z, G, T, hs⟩ := s
  dsimp only at *
  generalize enS ⟨Z, G, T, hs⟩ = EN at *
  generalize chS ⟨Z, G, T, hs⟩ = CH at *
  generalize bs (wS ⟨Z, G, T, hs⟩) = A4 at *
  generalize bs (sealL (wS ⟨Z, G, T, hs⟩)) = R at *
  generalize (esS ⟨Z, G, T, hs⟩).toArray = C at *
  generalize bs (be 4 Z) = S1 at *
  generalize bs (be 8 G) = S2 at *
  generalize bs (be 4 T) = S3 at *
  generalize bs hs = S4 at *
  obtain ⟨A1, h1⟩ : ∃ A, ⟨#[67, 66]⟩ ++ S1 = A := ⟨_, rfl⟩
  obtain ⟨A2, h2⟩ : ∃ A, A1 ++ S2 = A := ⟨_, rfl⟩
  obtain ⟨A3, h3⟩ : ∃ A, A2 ++ S3 = A := ⟨_, rfl⟩
  rw [h1, h2, h3] at e4
  have E1 := Lib.hid h1
  have E2 := Lib.hid h2
  have E3 := Lib.hid h3
  have E4 := Lib.hid e4
  have y1 : A1.size = 6 := by rw [← h1, ByteArray.size_append, z1]; rfl
  have y2 : A2.size = 14 := by rw [← h2, ByteArray.size_append, y1, z2]
  have y3 : A3.size = 18 := by rw [← h3, ByteArray.size_append, y2, z3]
  clear h1 h2 h3 e4 hl hw50
  have R0 := Lib.hid (heap_alloc_new w (.cells C 44))
  have BB0 := Lib.hid ((Below.refl w.heap.size w).alloc (Nat.le_refl _) (.cells C 44))
  go_enter Tryz.func27, Tryz.ntmps27
  go_wp2_with (refine wpList_load_row rfl 44 (.tmp 1) rfl w.heap.size rfl 44 C (0, 0) _ R0.out Tryz.underlying44 rfl HCI.out ?_)
  generalize w.alloc _ = W at *
  refine (HC.out _).mono ?_
  rintro e w2 ⟨rfl, hb⟩
  have R2 := Lib.hid ((hb.block _ (row_lt R0.out)).trans R0.out)
  have BB2 := Lib.hid (BB0.out.trans (hb.mono BB0.out.size))
  clear hb R0 BB0 HC
  cases q
  · obtain ⟨f1, f2⟩ := HKN.out rfl
    clear HKN HKY
    subst f1 f2
    go_wp2
    go_ret2
    exact ⟨rfl, BB2.out⟩
  · obtain ⟨f1, f2⟩ := HKY.out rfl
    clear HKN HKY
    subst f1 f2
    have c0 : w2.cell? ⟨w.heap.size, 0, none⟩ = some (.int .u32 Z) := (cell_of_row _ _ 0 _ _ _ R2.out).trans c0'
    have c1 : w2.cell? ⟨w.heap.size, 1, none⟩ = some (.int .u64 G) := (cell_of_row _ _ 1 _ _ _ R2.out).trans c1'
    have c2 : w2.cell? ⟨w.heap.size, 2, none⟩ = some (.int .u32 T) := (cell_of_row _ _ 2 _ _ _ R2.out).trans c2'
    have k0 := row_lt R2.out
    have HCV := HROW
    go_wp2_with fail
    refine wp_region_G (fun w' => Below w2.heap.size w2 w') (by kernel_rfl) (by kernel_rfl) (Below.refl _ _).drew ?_
    refine wpG_val (.pointer (some ⟨w.heap.size, 0, none⟩)) rfl (by rfl) (fun w' hSw => by go_simp) ?_
    simp only [List.setIfInBounds_toArray, List.set_cons_zero, List.set_cons_succ]
    refine wpG_val (.int .u32 (Z : Int)) rfl (by rfl) (fun w' hSw => by have c := (Below.cell hSw (p := ⟨w.heap.size, 0, none⟩) k0).trans c0; go_simp) ?_
    simp only [List.setIfInBounds_toArray, List.set_cons_zero, List.set_cons_succ]
    refine wpG_val (.int .u64 (Z : Int)) rfl (by rfl) (fun w' hSw => by have h := U1.out; go_simp) ?_
    simp only [List.setIfInBounds_toArray, List.set_cons_zero, List.set_cons_succ]
    refine wpG_call (.string S1) 59 #[.int .u64 (Z : Int), .int .i64 4] rfl (by rfl) (fun w' => by go_simp) (fun w' hSw => (B1.out w').mono fun e w2 h => ⟨h.1, hSw.trans (h.2.mono hSw.size)⟩) ?_
    simp only [List.setIfInBounds_toArray, List.set_cons_zero, List.set_cons_succ]
    refine wpG_val (.string A1) rfl (by rfl) (fun w' hSw => by have h := E1.out; go_simp) ?_
    simp only [List.setIfInBounds_toArray, List.set_cons_zero, List.set_cons_succ]
    refine wpG_val (.pointer (some ⟨w.heap.size, 1, none⟩)) rfl (by rfl) (fun w' hSw => by go_simp) ?_
    simp only [List.setIfInBounds_toArray, List.set_cons_zero, List.set_cons_succ]
    refine wpG_val (.int .u64 (G : Int)) rfl (by rfl) (fun w' hSw => by have c := (Below.cell hSw (p := ⟨w.heap.size, 1, none⟩) k0).trans c1; go_simp) ?_
    simp only [List.setIfInBounds_toArray, List.set_cons_zero, List.set_cons_succ]
    refine wpG_call (.string S2) 59 #[.int .u64 (G : Int), .int .i64 8] rfl (by rfl) (fun w' => by go_simp) (fun w' hSw => (B2.out w').mono fun e w2 h => ⟨h.1, hSw.trans (h.2.mono hSw.size)⟩) ?_
    simp only [List.setIfInBounds_toArray, List.set_cons_zero, List.set_cons_succ]
    refine wpG_val (.string A2) rfl (by rfl) (fun w' hSw => by have h := E2.out; go_simp) ?_
    simp only [List.setIfInBounds_toArray, List.set_cons_zero, List.set_cons_succ]
    refine wpG_val (.pointer (some ⟨w.heap.size, 2, none⟩)) rfl (by rfl) (fun w' hSw => by go_simp) ?_
    simp only [List.setIfInBounds_toArray, List.set_cons_zero, List.set_cons_succ]
    refine wpG_val (.int .u32 (T : Int)) rfl (by rfl) (fun w' hSw => by have c := (Below.cell hSw (p := ⟨w.heap.size, 2, none⟩) k0).trans c2; go_simp) ?_
    simp only [List.setIfInBounds_toArray, List.set_cons_zero, List.set_cons_succ]
    refine wpG_val (.int .u64 (T : Int)) rfl (by rfl) (fun w' hSw => by have h := U3.out; go_simp) ?_
    simp only [List.setIfInBounds_toArray, List.set_cons_zero, List.set_cons_succ]
    refine wpG_call (.string S3) 59 #[.int .u64 (T : Int), .int .i64 4] rfl (by rfl) (fun w' => by go_simp) (fun w' hSw => (B3.out w').mono fun e w2 h => ⟨h.1, hSw.trans (h.2.mono hSw.size)⟩) ?_
    simp only [List.setIfInBounds_toArray, List.set_cons_zero, List.set_cons_succ]
    refine wpG_val (.string A3) rfl (by rfl) (fun w' hSw => by have h := E3.out; go_simp) ?_
    simp only [List.setIfInBounds_toArray, List.set_cons_zero, List.set_cons_succ]
    refine wpG_val (.pointer (some ⟨w.heap.size, 3, none⟩)) rfl (by rfl) (fun w' hSw => by go_simp) ?_
    simp only [List.setIfInBounds_toArray, List.set_cons_zero, List.set_cons_succ]
    refine wpG_val (.slice (some ⟨w.heap.size, 3, none⟩) 32 32) rfl (by rfl) (fun w' hSw => by have c := (hSw.block _ k0).trans R2.out; go_simp) ?_
    simp only [List.setIfInBounds_toArray, List.set_cons_zero, List.set_cons_succ]
    refine wpG_val (.string S4) rfl (by rfl) (fun w' hSw => by have c := HCV.out _ ((hSw.block _ k0).trans R2.out); go_simp) ?_
    simp only [List.setIfInBounds_toArray, List.set_cons_zero, List.set_cons_succ]
    refine wpG_val (.string A4) rfl (by rfl) (fun w' hSw => by have h := E4.out; go_simp) ?_
    simp only [List.setIfInBounds_toArray, List.set_cons_zero, List.set_cons_succ]
    refine wpG_call (.string EN) 45 #[.string A4] rfl (by rfl) (fun w' => by go_simp) (fun w' hSw => (WH.out w').mono fun e w2 h => ⟨h.1, hSw.trans (h.2.mono hSw.size)⟩) ?_
    simp only [List.setIfInBounds_toArray, List.set_cons_zero, List.set_cons_succ]
    refine wpG_val (.string EN) rfl (by rfl) (fun w' hSw => by go_simp) ?_
    simp only [List.setIfInBounds_toArray, List.set_cons_zero, List.set_cons_succ]
    refine wpG_val (.int .i64 0) rfl (by rfl) (fun w' hSw => by go_simp) ?_
    simp only [List.setIfInBounds_toArray, List.set_cons_zero, List.set_cons_succ]
    refine wpG_nil ?_
    intro wS hSw
    go_wp2
    go_ret2
    exact ⟨rfl, BB2.out.trans (hSw.mono BB2.out.size)⟩
end Go.Proofs.YtlchjohaacbkpaaGreatDoor.Rs
