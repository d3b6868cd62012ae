/- Contracts of package super: what is written of a superblock, Encode. -/
import Derived.Test.YtlchjohaacbkpaaGreatDoorSuA
namespace Go.Proofs.YtlchjohaacbkpaaGreatDoor.Sp
set_option linter.unusedVariables false
set_option linter.unusedSimpArgs false
open Go.ChangeShapes Go.WideShapes Go.ChangeAt Go.RowKit
open Nd Rg
open BigFrame
open Pk (be num be_length u8s u8s_length)
theorem MZ : (⟨#[67, 66]⟩ : ByteArray).size = 2 := rfl
theorem u64_of32 {n : Nat} (h : n < 4294967296) : IntKind.u64.wrap (n : Int) = n := by simp [IntKind.wrap, IntKind.bits, IntKind.signed]; omega
theorem wS_bs (s : Su) : (⟨#[67, 66]⟩ : ByteArray) ++ bs (be 4 s.Z) ++ bs (be 8 s.G) ++ bs (be 4 s.T) ++ bs s.hs = bs (wS s) := by
  rw [show (⟨#[67, 66]⟩ : ByteArray) = bs [67, 66] from rfl, bs_app, bs_app, bs_app, bs_app, wS_eq]
  simp only [List.append_assoc]
set_option maxRecDepth 100000 in
set_option maxHeartbeats 4000000 in
theorem written_su (s : Su) (hl : s.lim) (w : World) :
    Calls Tryz.prog 58 #[vS s] w fun e w' => e = .returned (.string (bs (wS s))) ∧ Below w.heap.size w w' := by
  have HW := Lib.hid (wS_bs s)
  rw [← HW.out]
  unfold vS
  obtain ⟨C, hC⟩ : ∃ C, (esS s).toArray = C := ⟨_, rfl⟩
  have R0 := Lib.hid (heap_alloc_new w (.cells C 44))
  have B0 := Lib.hid ((Below.refl w.heap.size w).alloc (Nat.le_refl _) (.cells C 44))
  have hlt : w.heap.size < (w.alloc (.cells C 44)).heap.size := by simp
  have c0 : (w.alloc (.cells C 44)).cell? ⟨w.heap.size, 0, none⟩ = some (.int .u32 s.Z) := (cell_of_row _ _ 0 _ _ _ R0.out).trans (by rw [← hC]; exact esS_0 s)
  have c1 : (w.alloc (.cells C 44)).cell? ⟨w.heap.size, 1, none⟩ = some (.int .u64 s.G) := (cell_of_row _ _ 1 _ _ _ R0.out).trans (by rw [← hC]; exact esS_1 s)
  have c2 : (w.alloc (.cells C 44)).cell? ⟨w.heap.size, 2, none⟩ = some (.int .u32 s.T) := (cell_of_row _ _ 2 _ _ _ R0.out).trans (by rw [← hC]; exact esS_2 s)
  have CV := Lib.hid (fun w' (hb : Below (w.alloc (.cells C 44)).heap.size (w.alloc (.cells C 44)) w') => conv_hash (w' := w') (q := w.heap.size) (o := 3) hl.2.2.2 (fun j u hu => by
    have hg := (hb.block _ hlt).trans R0.out
    refine (cell_of_row w' w.heap.size (3 + j) _ _ _ hg).trans ?_
    rw [← hC]
    unfold esS
    rw [List.getElem?_toArray, show 3 + j = j + 1 + 1 + 1 by omega, List.getElem?_cons_succ, List.getElem?_cons_succ, List.getElem?_cons_succ]
    exact hu))
  have N1 := Lib.hid (fun w => numS s.Z 4 w (by omega) (by omega) (by have := hl.1; omega))
  have N2 := Lib.hid (fun w => numS s.G 8 w (by omega) (by omega) (by have := hl.2.1; omega))
  have N3 := Lib.hid (fun w => numS s.T 4 w (by omega) (by omega) (by have := hl.2.2.1; omega))
  have z1 : (bs (be 4 s.Z)).size ≤ 8 := by rw [bs_size, be_length]; omega
  have z2 : (bs (be 8 s.G)).size ≤ 8 := by rw [bs_size, be_length]; omega
  have z3 : (bs (be 4 s.T)).size ≤ 8 := by rw [bs_size, be_length]; omega
  have z4 : (bs s.hs).size ≤ 32 := by rw [bs_size, hl.2.2.2]; omega
  have U1 := u64_of32 hl.1
  have U3 := u64_of32 hl.2.2.1
  rw [hC]
  clear hC hl R0
  obtain ⟨Z, G, T, hs⟩ := s
  dsimp only at *
  obtain ⟨a, ha⟩ : ∃ a, bs (be 4 Z) = a := ⟨_, rfl⟩
  obtain ⟨b, hb⟩ : ∃ a, bs (be 8 G) = a := ⟨_, rfl⟩
  obtain ⟨c, hc⟩ : ∃ a, bs (be 4 T) = a := ⟨_, rfl⟩
  obtain ⟨h, hh⟩ : ∃ a, bs hs = a := ⟨_, rfl⟩
  rw [ha] at N1 z1 ⊢
  rw [hb] at N2 z2 ⊢
  rw [hc] at N3 z3 ⊢
  rw [hh] at CV z4 ⊢
  clear ha hb hc hh HW
  have HU1 := Lib.hid U1
  have HU3 := Lib.hid U3
  clear U1 U3
  go_enter Tryz.func58, Tryz.ntmps58
  go_wp2_with fail
  generalize w.alloc (.cells C 44) = W at *
  have U1 := HU1.out
  have U3 := HU3.out
  refine wp_region_G (fun w' => Below W.heap.size W w') (by kernel_rfl) (by kernel_rfl) (Below.refl _ _).drew ?_
  refine wpG_val (.pointer (some ⟨w.heap.size, 0, none⟩)) rfl (by rfl) (fun w' hSw => by go_simp) ?_
  simp only [List.setIfInBounds_toArray, List.set_cons_zero, List.set_cons_succ]
  refine wpG_val (.int .u32 Z) rfl (by rfl) (fun w' hSw => by have c := (Below.cell hSw (p := ⟨w.heap.size, 0, none⟩) hlt).trans c0; go_simp) ?_
  simp only [List.setIfInBounds_toArray, List.set_cons_zero, List.set_cons_succ]
  refine wpG_val (.int .u64 Z) rfl (by rfl) (fun w' hSw => by go_simp) ?_
  simp only [List.setIfInBounds_toArray, List.set_cons_zero, List.set_cons_succ]
  refine wpG_call (.string a) 95 #[.int .u64 Z, .int .i64 4] rfl (by rfl) (fun w' => by go_simp) (fun w' hSw => (N1.out w').mono fun e w2 h => ⟨h.1, hSw.trans (h.2.mono hSw.size)⟩) ?_
  simp only [List.setIfInBounds_toArray, List.set_cons_zero, List.set_cons_succ]
  refine wpG_val (.string (⟨#[67, 66]⟩ ++ a)) rfl (by rfl) (fun w' hSw => by have z := MZ; go_simp <;> omega) ?_
  simp only [List.setIfInBounds_toArray, List.set_cons_zero, List.set_cons_succ]
  refine wpG_val (.pointer (some ⟨w.heap.size, 1, none⟩)) rfl (by rfl) (fun w' hSw => by go_simp) ?_
  simp only [List.setIfInBounds_toArray, List.set_cons_zero, List.set_cons_succ]
  refine wpG_val (.int .u64 G) rfl (by rfl) (fun w' hSw => by have c := (Below.cell hSw (p := ⟨w.heap.size, 1, none⟩) hlt).trans c1; go_simp) ?_
  simp only [List.setIfInBounds_toArray, List.set_cons_zero, List.set_cons_succ]
  refine wpG_call (.string b) 95 #[.int .u64 G, .int .i64 8] rfl (by rfl) (fun w' => by go_simp) (fun w' hSw => (N2.out w').mono fun e w2 h => ⟨h.1, hSw.trans (h.2.mono hSw.size)⟩) ?_
  simp only [List.setIfInBounds_toArray, List.set_cons_zero, List.set_cons_succ]
  refine wpG_val (.string (⟨#[67, 66]⟩ ++ a ++ b)) rfl (by rfl) (fun w' hSw => by have z := MZ; go_simp <;> omega) ?_
  simp only [List.setIfInBounds_toArray, List.set_cons_zero, List.set_cons_succ]
  refine wpG_val (.pointer (some ⟨w.heap.size, 2, none⟩)) rfl (by rfl) (fun w' hSw => by go_simp) ?_
  simp only [List.setIfInBounds_toArray, List.set_cons_zero, List.set_cons_succ]
  refine wpG_val (.int .u32 T) rfl (by rfl) (fun w' hSw => by have c := (Below.cell hSw (p := ⟨w.heap.size, 2, none⟩) hlt).trans c2; go_simp) ?_
  simp only [List.setIfInBounds_toArray, List.set_cons_zero, List.set_cons_succ]
  refine wpG_val (.int .u64 T) rfl (by rfl) (fun w' hSw => by go_simp) ?_
  simp only [List.setIfInBounds_toArray, List.set_cons_zero, List.set_cons_succ]
  refine wpG_call (.string c) 95 #[.int .u64 T, .int .i64 4] rfl (by rfl) (fun w' => by go_simp) (fun w' hSw => (N3.out w').mono fun e w2 h => ⟨h.1, hSw.trans (h.2.mono hSw.size)⟩) ?_
  simp only [List.setIfInBounds_toArray, List.set_cons_zero, List.set_cons_succ]
  refine wpG_val (.string (⟨#[67, 66]⟩ ++ a ++ b ++ c)) rfl (by rfl) (fun w' hSw => by have z := MZ; go_simp <;> omega) ?_
  simp only [List.setIfInBounds_toArray, List.set_cons_zero, List.set_cons_succ]
  refine wpG_val (.pointer (some ⟨w.heap.size, 3, none⟩)) rfl (by rfl) (fun w' hSw => by go_simp) ?_
  simp only [List.setIfInBounds_toArray, List.set_cons_zero, List.set_cons_succ]
  refine wpG_val (.slice (some ⟨w.heap.size, 3, none⟩) 32 32) rfl (by rfl) (fun w' hSw => by go_simp) ?_
  simp only [List.setIfInBounds_toArray, List.set_cons_zero, List.set_cons_succ]
  refine wpG_val (.string h) rfl (by rfl) (fun w' hSw => by have cv := CV.out w' hSw; go_simp) ?_
  simp only [List.setIfInBounds_toArray, List.set_cons_zero, List.set_cons_succ]
  refine wpG_val (.string (⟨#[67, 66]⟩ ++ a ++ b ++ c ++ h)) rfl (by rfl) (fun w' hSw => by have z := MZ; go_simp <;> omega) ?_
  simp only [List.setIfInBounds_toArray, List.set_cons_zero, List.set_cons_succ]
  refine wpG_val (.string (⟨#[67, 66]⟩ ++ a ++ b ++ c ++ h)) rfl (by rfl) (fun w' hSw => by go_simp) ?_
  simp only [List.setIfInBounds_toArray, List.set_cons_zero, List.set_cons_succ]
  refine wpG_nil ?_
  intro wS hSw
  clear U1 U3
  go_wp2
  go_ret
  exact ⟨rfl, B0.out.trans (hSw.mono B0.out.size)⟩
set_option maxRecDepth 100000 in
set_option maxHeartbeats 4000000 in
theorem encode_su (s : Su) (hl : s.lim) (w : World) :
    Calls Tryz.prog 26 #[vS s] w fun e w' => e = .returned (.tuple #[.string (enS s), .int .i64 (chS s)]) ∧ Below w.heap.size w w' := by
  have HK := Lib.hid (fun w => check_su s w)
  have HW := Lib.hid (fun w => written_su s hl w)
  have HI := Lib.hid (infoSa hl.2.2.2)
  have HY := Lib.hid (fun h : okS s = true => chS_yes h)
  have HN := Lib.hid (fun h : okS s = false => chS_no h)
  have HE := Lib.hid (fun w => seal_any (bs (wS s)) w)
  have hz : (bs (wS s)).size = 50 := by rw [bs_size, wS_len hl.2.2.2]
  rw [show slB (bs (wS s)) = bs (sealL (wS s)) by unfold slB; rw [if_neg (by omega)]; rfl, show slE (bs (wS s)).size = 0 by unfold slE; rw [if_neg (by omega)]] at HE
  clear hz hl
  unfold vS at HK HW ⊢
  obtain ⟨C, hC⟩ : ∃ C, (esS s).toArray = C := ⟨_, rfl⟩
  rw [hC] at HK HW HI ⊢
  clear hC
  obtain ⟨q, hq⟩ : ∃ q, okS s = q := ⟨_, rfl⟩
  obtain ⟨x, hx⟩ : ∃ q, chS s = q := ⟨_, rfl⟩
  obtain ⟨d, hd⟩ : ∃ q, enS s = q := ⟨_, rfl⟩
  obtain ⟨y, hy⟩ : ∃ q, bs (wS s) = q := ⟨_, rfl⟩
  obtain ⟨z, hz⟩ : ∃ q, bs (sealL (wS s)) = q := ⟨_, rfl⟩
  rw [hq, hx, hd] at HY HN
  rw [hx] at HK
  rw [hy] at HW
  rw [hy, hz] at HE
  rw [hz] at HY
  rw [hx, hd]
  clear hq hx hd hy hz
  have R0 := Lib.hid (heap_alloc_new w (.cells C 44))
  have B0 := Lib.hid ((Below.refl w.heap.size w).alloc (Nat.le_refl _) (.cells C 44))
  have l0 : w.heap.size < (w.alloc (.cells C 44)).heap.size := by simp
  go_enter Tryz.func26, Tryz.ntmps26
  go_wp2_with (refine wpList_load_row rfl 44 (.tmp 1) rfl w.heap.size rfl 44 C (0, 0) _ R0.out Tryz.underlying44 rfl HI.out ?_)
  change Calls _ _ _ (w.alloc (.cells C 44)) _
  generalize w.alloc (.cells C 44) = W at *
  refine (HK.out _).mono ?_
  rintro e w1 ⟨rfl, hb⟩
  have R1 := Lib.hid ((hb.block _ l0).trans R0.out)
  have B1 := Lib.hid (B0.out.trans (hb.mono B0.out.size))
  clear hb R0 B0 HK
  cases q
  · obtain ⟨e1, e2⟩ := HN.out rfl
    clear HN HY
    subst e1 e2
    go_wp2
    go_ret2
    exact ⟨rfl, B1.out⟩
  · obtain ⟨e1, e2⟩ := HY.out rfl
    clear HN HY
    subst e1 e2
    go_wp2_with (refine wpList_load_row rfl 44 (.tmp 1) rfl w.heap.size rfl 44 C (0, 0) _ R1.out Tryz.underlying44 rfl HI.out ?_)
    refine (HW.out _).mono ?_
    rintro e w2 ⟨rfl, hb⟩
    have B2 := Lib.hid (B1.out.trans (hb.mono B1.out.size))
    clear hb B1 R1
    go_wp2_with fail
    refine (HE.out _).mono ?_
    rintro e w3 ⟨rfl, hb⟩
    have B3 := Lib.hid (B2.out.trans (hb.mono B2.out.size))
    clear hb B2
    go_wp2
    go_ret2
    exact ⟨rfl, B3.out⟩
end Go.Proofs.YtlchjohaacbkpaaGreatDoor.Sp
