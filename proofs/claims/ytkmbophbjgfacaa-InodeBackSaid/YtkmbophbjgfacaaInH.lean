/- The walks of the laws InodeCodes, InodeKeys: each answers true. -/
import Derived.Test.YtkmbophbjgfacaaInG
namespace Go.Proofs.Ytkmbophbjgfacaa.Ino
set_option linter.unusedVariables false
set_option linter.unusedSimpArgs false
open Go.ChangeShapes Go.WideShapes Go.ChangeAt Go.RowKit
open BigFrame
open Rg
open Pk (be num be_length num_be num_lt bs bs_size nB nE tN tR tE xB_size)
open Ph (has tl tl_len nb)
set_option maxRecDepth 100000 in
set_option maxHeartbeats 4000000 in
theorem inodeCodes_walk (w : World) (n : In) (hl : n.lim) (hz : n.T.size ≤ maxLen) (s : ByteArray) (hs : s.size ≤ maxLen) :
    Calls Try.prog 9 #[vI n, .string s] w fun e w' => e = .returned (.bool true) ∧ Below w.heap.size w w' := by
  have C1 := Lib.hid (encode_in n hl)
  have C2 := Lib.hid (refEncode_in n hl hz)
  have C3 := Lib.hid (decode_in s hs)
  have C4 := Lib.hid (refDecode_in s hs)
  have C5 := Lib.hid (check_in n hl)
  have C6 := Lib.hid (refCheck_in n hl hz)
  obtain ⟨a, ha⟩ : ∃ a, enI n = a := ⟨_, rfl⟩
  obtain ⟨x, hx⟩ : ∃ a, chI n = a := ⟨_, rfl⟩
  obtain ⟨d, hd⟩ : ∃ a, deI s = a := ⟨_, rfl⟩
  obtain ⟨y, hy⟩ : ∃ a, deIE s = a := ⟨_, rfl⟩
  rw [ha, hx] at C1 C2
  rw [hd, hy] at C3 C4
  rw [hx] at C5 C6
  have HEQ := Lib.hid (fun w => (eq_inode d d w).trans (by rw [(eqI_iff d d).2 rfl]))
  clear ha hx hd hy hl hz
  unfold maxLen at hs
  obtain ⟨K, M, L, S, T⟩ := n
  obtain ⟨DK, DM, DL, DS, DT⟩ := d
  unfold vI at *
  dsimp only at *
  have R0 := Lib.hid (heap_alloc_new w (.cells #[.int .u8 K, .int .u16 M, .int .u32 L, .int .u32 S, .string T] 39))
  have B0 := Lib.hid ((Below.refl w.heap.size w).alloc (Nat.le_refl _) (.cells #[.int .u8 K, .int .u16 M, .int .u32 L, .int .u32 S, .string T] 39))
  have l0 : w.heap.size < (w.alloc (.cells #[.int .u8 K, .int .u16 M, .int .u32 L, .int .u32 S, .string T] 39)).heap.size := by simp
  go_enter Try.func9, Try.ntmps9
  go_wp2_with fail
  change Calls _ _ _ (w.alloc (.cells #[.int .u8 K, .int .u16 M, .int .u32 L, .int .u32 S, .string T] 39)) _
  generalize w.alloc (.cells #[.int .u8 K, .int .u16 M, .int .u32 L, .int .u32 S, .string T] 39) = W at *
  refine (C1.out _).mono ?_
  rintro e w1 ⟨rfl, hb⟩
  have R1 := Lib.hid (row_bel R0.out hb l0)
  have B1 := Lib.hid (B0.out.trans (hb.mono B0.out.size))
  have l1 := Nat.lt_of_lt_of_le l0 hb.size
  clear hb R0 B0 l0 C1
  go_wp2_with (refine wpList_load_row rfl 39 (.tmp 2) rfl w.heap.size rfl 39 #[.int .u8 K, .int .u16 M, .int .u32 L, .int .u32 S, .string T] (0, 0) _ R1.out Try.underlying39 rfl (by kernel_rfl) ?_)
  refine (C2.out _).mono ?_
  rintro e w2 ⟨rfl, hb⟩
  have R2 := Lib.hid (row_bel R1.out hb l1)
  have B2 := Lib.hid (B1.out.trans (hb.mono B1.out.size))
  have l2 := Nat.lt_of_lt_of_le l1 hb.size
  clear hb R1 B1 l1 C2
  go_wp2_with fail
  refine (C3.out _).mono ?_
  rintro e w3 ⟨rfl, hb⟩
  have R3 := Lib.hid (row_bel R2.out hb l2)
  have B3 := Lib.hid (B2.out.trans (hb.mono B2.out.size))
  have l3 := Nat.lt_of_lt_of_le l2 hb.size
  clear hb R2 B2 l2 C3
  have N3 := Lib.hid (new_row2 (old := #[.int .u8 0, .int .u16 0, .int .u32 0, .int .u32 0, .string ⟨#[]⟩]) (cs := #[.int .u8 DK, .int .u16 DM, .int .u32 DL, .int .u32 DS, .string DT]) (t := 39) R3.out)
  go_wp2_with (refine wpList_store_row rfl 39 (.tmp 9) (.tmp 26) rfl w3.heap.size #[.int .u8 DK, .int .u16 DM, .int .u32 DL, .int .u32 DS, .string DT] rfl rfl 39 #[.int .u8 0, .int .u16 0, .int .u32 0, .int .u32 0, .string ⟨#[]⟩] (heap_alloc_new w3 _) (by kernel_rfl) rfl (row5 _ _ _ _ _) ?_; change wpList _ _ _ _ _ ((w3.alloc (.cells #[.int .u8 0, .int .u16 0, .int .u32 0, .int .u32 0, .string ⟨#[]⟩] 39)).setRow w3.heap.size #[.int .u8 DK, .int .u16 DM, .int .u32 DL, .int .u32 DS, .string DT]); generalize ((w3.alloc (.cells #[.int .u8 0, .int .u16 0, .int .u32 0, .int .u32 0, .string ⟨#[]⟩] 39)).setRow w3.heap.size #[.int .u8 DK, .int .u16 DM, .int .u32 DL, .int .u32 DS, .string DT]) = V3 at *)
  refine (C4.out _).mono ?_
  rintro e w4 ⟨rfl, hb⟩
  have R4 := Lib.hid (row_bel N3.out.1 hb (by have := N3.out.2.2.2; omega))
  have S4 := Lib.hid (row_bel N3.out.2.1 hb N3.out.2.2.2)
  have B4 := Lib.hid (B3.out.trans ((N3.out.2.2.1.trans (hb.mono N3.out.2.2.1.size)).mono B3.out.size))
  have l4 : w3.heap.size < w4.heap.size := Nat.lt_of_lt_of_le N3.out.2.2.2 hb.size
  clear hb R3 B3 C4 N3
  have N4 := Lib.hid (new_row2 (old := #[.int .u8 0, .int .u16 0, .int .u32 0, .int .u32 0, .string ⟨#[]⟩]) (cs := #[.int .u8 DK, .int .u16 DM, .int .u32 DL, .int .u32 DS, .string DT]) (t := 39) R4.out)
  have N5 := Lib.hid (new_row2 (old := #[.int .u8 0, .int .u16 0, .int .u32 0, .int .u32 0, .string ⟨#[]⟩]) (cs := #[.int .u8 DK, .int .u16 DM, .int .u32 DL, .int .u32 DS, .string DT]) (t := 39) S4.out)
  go_wp2_with (refine wpList_store_row rfl 39 (.tmp 11) (.tmp 31) rfl w4.heap.size #[.int .u8 DK, .int .u16 DM, .int .u32 DL, .int .u32 DS, .string DT] rfl rfl 39 #[.int .u8 0, .int .u16 0, .int .u32 0, .int .u32 0, .string ⟨#[]⟩] (heap_alloc_new w4 _) (by kernel_rfl) rfl (row5 _ _ _ _ _) ?_; change wpList _ _ _ _ _ ((w4.alloc (.cells #[.int .u8 0, .int .u16 0, .int .u32 0, .int .u32 0, .string ⟨#[]⟩] 39)).setRow w4.heap.size #[.int .u8 DK, .int .u16 DM, .int .u32 DL, .int .u32 DS, .string DT]); generalize ((w4.alloc (.cells #[.int .u8 0, .int .u16 0, .int .u32 0, .int .u32 0, .string ⟨#[]⟩] 39)).setRow w4.heap.size #[.int .u8 DK, .int .u16 DM, .int .u32 DL, .int .u32 DS, .string DT]) = V4 at *)
  have B5 := Lib.hid (B4.out.trans (N4.out.2.2.1.mono B4.out.size))
  have r0 := N4.out.1
  have r1 := N5.out.1
  have r2 := N4.out.2.1
  have k2 := N4.out.2.2.2
  have k1 : w3.heap.size < V4.heap.size := by omega
  have k0 : w.heap.size < V4.heap.size := by omega
  refine wp_region_G (fun w' => Below V4.heap.size V4 w') (by kernel_rfl) (by kernel_rfl) (Below.refl _ _).drew ?_
  refine wpG_call (.bool true) 30 #[] rfl (by rfl) (fun w' => by go_simp) (fun w' hSw => (lives_in w').mono fun e w2 h => ⟨h.1, hSw.trans (h.2.mono hSw.size)⟩) ?_
  simp only [List.setIfInBounds_toArray, List.set_cons_zero, List.set_cons_succ]
  refine wpG_val (.bool true) rfl (by rfl) (fun w' hSw => by go_simp) ?_
  simp only [List.setIfInBounds_toArray, List.set_cons_zero, List.set_cons_succ]
  refine wpG_val (.string a) rfl (by rfl) (fun w' hSw => by go_simp) ?_
  simp only [List.setIfInBounds_toArray, List.set_cons_zero, List.set_cons_succ]
  refine wpG_val (.string a) rfl (by rfl) (fun w' hSw => by go_simp) ?_
  simp only [List.setIfInBounds_toArray, List.set_cons_zero, List.set_cons_succ]
  refine wpG_val (.bool true) rfl (by rfl) (fun w' hSw => by go_simp) ?_
  simp only [List.setIfInBounds_toArray, List.set_cons_zero, List.set_cons_succ]
  refine wpG_val (.bool true) rfl (by rfl) (fun w' hSw => by go_simp) ?_
  simp only [List.setIfInBounds_toArray, List.set_cons_zero, List.set_cons_succ]
  refine wpG_val (.bool true) rfl (by rfl) (fun w' hSw => by go_simp) ?_
  simp only [List.setIfInBounds_toArray, List.set_cons_zero, List.set_cons_succ]
  refine wpG_val (.int .i64 x) rfl (by rfl) (fun w' hSw => by go_simp) ?_
  simp only [List.setIfInBounds_toArray, List.set_cons_zero, List.set_cons_succ]
  refine wpG_val (.int .i64 x) rfl (by rfl) (fun w' hSw => by go_simp) ?_
  simp only [List.setIfInBounds_toArray, List.set_cons_zero, List.set_cons_succ]
  refine wpG_val (.bool true) rfl (by rfl) (fun w' hSw => by go_simp) ?_
  simp only [List.setIfInBounds_toArray, List.set_cons_zero, List.set_cons_succ]
  refine wpG_val (.bool true) rfl (by rfl) (fun w' hSw => by go_simp) ?_
  simp only [List.setIfInBounds_toArray, List.set_cons_zero, List.set_cons_succ]
  refine wpG_val (.bool true) rfl (by rfl) (fun w' hSw => by go_simp) ?_
  simp only [List.setIfInBounds_toArray, List.set_cons_zero, List.set_cons_succ]
  refine wpG_val (.agg #[.int .u8 DK, .int .u16 DM, .int .u32 DL, .int .u32 DS, .string DT]) rfl (by rfl) (fun w' hSw => by have r := (hSw.block _ k1).trans r1; exact row_run 39 rfl w3.heap.size rfl _ _ (0, 0) _ r Try.underlying39 rfl (by kernel_rfl)) ?_
  simp only [List.setIfInBounds_toArray, List.set_cons_zero, List.set_cons_succ]
  refine wpG_val (.agg #[.int .u8 DK, .int .u16 DM, .int .u32 DL, .int .u32 DS, .string DT]) rfl (by rfl) (fun w' hSw => by have r := (hSw.block _ k2).trans r2; exact row_run 39 rfl w4.heap.size rfl _ _ (0, 0) _ r Try.underlying39 rfl (by kernel_rfl)) ?_
  simp only [List.setIfInBounds_toArray, List.set_cons_zero, List.set_cons_succ]
  refine wpG_val (.bool true) rfl (by rfl) (fun w' hSw => by have h := HEQ.out w'; have g := guardI; go_simp) ?_
  simp only [List.setIfInBounds_toArray, List.set_cons_zero, List.set_cons_succ]
  refine wpG_val (.bool true) rfl (by rfl) (fun w' hSw => by go_simp) ?_
  simp only [List.setIfInBounds_toArray, List.set_cons_zero, List.set_cons_succ]
  refine wpG_val (.bool true) rfl (by rfl) (fun w' hSw => by go_simp) ?_
  simp only [List.setIfInBounds_toArray, List.set_cons_zero, List.set_cons_succ]
  refine wpG_val (.int .i64 y) rfl (by rfl) (fun w' hSw => by go_simp) ?_
  simp only [List.setIfInBounds_toArray, List.set_cons_zero, List.set_cons_succ]
  refine wpG_val (.int .i64 y) rfl (by rfl) (fun w' hSw => by go_simp) ?_
  simp only [List.setIfInBounds_toArray, List.set_cons_zero, List.set_cons_succ]
  refine wpG_val (.bool true) rfl (by rfl) (fun w' hSw => by go_simp) ?_
  simp only [List.setIfInBounds_toArray, List.set_cons_zero, List.set_cons_succ]
  refine wpG_val (.bool true) rfl (by rfl) (fun w' hSw => by go_simp) ?_
  simp only [List.setIfInBounds_toArray, List.set_cons_zero, List.set_cons_succ]
  refine wpG_val (.bool true) rfl (by rfl) (fun w' hSw => by go_simp) ?_
  simp only [List.setIfInBounds_toArray, List.set_cons_zero, List.set_cons_succ]
  refine wpG_val (.agg #[.int .u8 K, .int .u16 M, .int .u32 L, .int .u32 S, .string T]) rfl (by rfl) (fun w' hSw => by have r := (hSw.block _ k0).trans r0; exact row_run 39 rfl w.heap.size rfl _ _ (0, 0) _ r Try.underlying39 rfl (by kernel_rfl)) ?_
  simp only [List.setIfInBounds_toArray, List.set_cons_zero, List.set_cons_succ]
  refine wpG_call (.int .i64 x) 31 #[.agg #[.int .u8 K, .int .u16 M, .int .u32 L, .int .u32 S, .string T]] rfl (by rfl) (fun w' => by go_simp) (fun w' hSw => (C5.out w').mono fun e w2 h => ⟨h.1, hSw.trans (h.2.mono hSw.size)⟩) ?_
  simp only [List.setIfInBounds_toArray, List.set_cons_zero, List.set_cons_succ]
  refine wpG_val (.agg #[.int .u8 K, .int .u16 M, .int .u32 L, .int .u32 S, .string T]) rfl (by rfl) (fun w' hSw => by have r := (hSw.block _ k0).trans r0; exact row_run 39 rfl w.heap.size rfl _ _ (0, 0) _ r Try.underlying39 rfl (by kernel_rfl)) ?_
  simp only [List.setIfInBounds_toArray, List.set_cons_zero, List.set_cons_succ]
  refine wpG_call (.int .i64 x) 32 #[.agg #[.int .u8 K, .int .u16 M, .int .u32 L, .int .u32 S, .string T]] rfl (by rfl) (fun w' => by go_simp) (fun w' hSw => (C6.out w').mono fun e w2 h => ⟨h.1, hSw.trans (h.2.mono hSw.size)⟩) ?_
  simp only [List.setIfInBounds_toArray, List.set_cons_zero, List.set_cons_succ]
  refine wpG_val (.bool true) rfl (by rfl) (fun w' hSw => by go_simp) ?_
  simp only [List.setIfInBounds_toArray, List.set_cons_zero, List.set_cons_succ]
  refine wpG_val (.bool true) rfl (by rfl) (fun w' hSw => by go_simp) ?_
  simp only [List.setIfInBounds_toArray, List.set_cons_zero, List.set_cons_succ]
  refine wpG_val (.bool true) rfl (by rfl) (fun w' hSw => by go_simp) ?_
  simp only [List.setIfInBounds_toArray, List.set_cons_zero, List.set_cons_succ]
  refine wpG_nil ?_
  intro wS hSw
  go_wp2
  go_ret
  exact ⟨rfl, B5.out.trans (hSw.mono B5.out.size)⟩
set_option maxRecDepth 100000 in
set_option maxHeartbeats 4000000 in
theorem inodeKeys_walk (w : World) (n : Ky) (hl : n.lim) (hz : n.N.size ≤ maxLen) (s : ByteArray) (hs : s.size ≤ maxLen) :
    Calls Try.prog 10 #[vK n, .string s] w fun e w' => e = .returned (.bool true) ∧ Below w.heap.size w w' := by
  have C1 := Lib.hid (key_in n hl)
  have C2 := Lib.hid (refKey_in n hl hz)
  have C3 := Lib.hid (parse_in s hs)
  have C4 := Lib.hid (refParse_in s hs)
  have C5 := Lib.hid (prefix_in n.K n.I hl.1 hl.2.1)
  have C6 := Lib.hid (refPrefix_in n.K n.I hl.2.1)
  obtain ⟨P, hP⟩ : ∃ P, pfx n.K n.I = P := ⟨_, rfl⟩
  obtain ⟨a, ha⟩ : ∃ a, enK n = a := ⟨_, rfl⟩
  obtain ⟨x, hx⟩ : ∃ a, chK n = a := ⟨_, rfl⟩
  obtain ⟨d, hd⟩ : ∃ a, deK s = a := ⟨_, rfl⟩
  obtain ⟨y, hy⟩ : ∃ a, deKE s = a := ⟨_, rfl⟩
  rw [ha, hx] at C1 C2
  rw [hd, hy] at C3 C4
  rw [hP] at C5 C6
  clear hP
  have HEQ := Lib.hid (fun w => (eq_key d d w).trans (by rw [(eqK_iff d d).2 rfl]))
  clear ha hx hd hy hl hz
  unfold maxLen at hs
  obtain ⟨K, I, N, C⟩ := n
  obtain ⟨DK, DI, DN, DC⟩ := d
  unfold vK at *
  dsimp only at *
  have R0 := Lib.hid (heap_alloc_new w (.cells #[.int .u8 K, .int .u32 I, .string N, .int .u32 C] 47))
  have B0 := Lib.hid ((Below.refl w.heap.size w).alloc (Nat.le_refl _) (.cells #[.int .u8 K, .int .u32 I, .string N, .int .u32 C] 47))
  have l0 : w.heap.size < (w.alloc (.cells #[.int .u8 K, .int .u32 I, .string N, .int .u32 C] 47)).heap.size := by simp
  go_enter Try.func10, Try.ntmps10
  go_wp2_with fail
  change Calls _ _ _ (w.alloc (.cells #[.int .u8 K, .int .u32 I, .string N, .int .u32 C] 47)) _
  generalize w.alloc (.cells #[.int .u8 K, .int .u32 I, .string N, .int .u32 C] 47) = W at *
  refine (C1.out _).mono ?_
  rintro e w1 ⟨rfl, hb⟩
  have R1 := Lib.hid (row_bel R0.out hb l0)
  have B1 := Lib.hid (B0.out.trans (hb.mono B0.out.size))
  have l1 := Nat.lt_of_lt_of_le l0 hb.size
  clear hb R0 B0 l0 C1
  go_wp2_with (refine wpList_load_row rfl 47 (.tmp 2) rfl w.heap.size rfl 47 #[.int .u8 K, .int .u32 I, .string N, .int .u32 C] (0, 0) _ R1.out Try.underlying47 rfl (by kernel_rfl) ?_)
  refine (C2.out _).mono ?_
  rintro e w2 ⟨rfl, hb⟩
  have R2 := Lib.hid (row_bel R1.out hb l1)
  have B2 := Lib.hid (B1.out.trans (hb.mono B1.out.size))
  have l2 := Nat.lt_of_lt_of_le l1 hb.size
  clear hb R1 B1 l1 C2
  go_wp2_with fail
  refine (C3.out _).mono ?_
  rintro e w3 ⟨rfl, hb⟩
  have R3 := Lib.hid (row_bel R2.out hb l2)
  have B3 := Lib.hid (B2.out.trans (hb.mono B2.out.size))
  have l3 := Nat.lt_of_lt_of_le l2 hb.size
  clear hb R2 B2 l2 C3
  have N3 := Lib.hid (new_row2 (old := #[.int .u8 0, .int .u32 0, .string ⟨#[]⟩, .int .u32 0]) (cs := #[.int .u8 DK, .int .u32 DI, .string DN, .int .u32 DC]) (t := 47) R3.out)
  go_wp2_with (refine wpList_store_row rfl 47 (.tmp 9) (.tmp 26) rfl w3.heap.size #[.int .u8 DK, .int .u32 DI, .string DN, .int .u32 DC] rfl rfl 47 #[.int .u8 0, .int .u32 0, .string ⟨#[]⟩, .int .u32 0] (heap_alloc_new w3 _) (by kernel_rfl) rfl (row4 _ _ _ _) ?_; change wpList _ _ _ _ _ ((w3.alloc (.cells #[.int .u8 0, .int .u32 0, .string ⟨#[]⟩, .int .u32 0] 47)).setRow w3.heap.size #[.int .u8 DK, .int .u32 DI, .string DN, .int .u32 DC]); generalize ((w3.alloc (.cells #[.int .u8 0, .int .u32 0, .string ⟨#[]⟩, .int .u32 0] 47)).setRow w3.heap.size #[.int .u8 DK, .int .u32 DI, .string DN, .int .u32 DC]) = V3 at *)
  refine (C4.out _).mono ?_
  rintro e w4 ⟨rfl, hb⟩
  have R4 := Lib.hid (row_bel N3.out.1 hb (by have := N3.out.2.2.2; omega))
  have S4 := Lib.hid (row_bel N3.out.2.1 hb N3.out.2.2.2)
  have B4 := Lib.hid (B3.out.trans ((N3.out.2.2.1.trans (hb.mono N3.out.2.2.1.size)).mono B3.out.size))
  have l4 : w3.heap.size < w4.heap.size := Nat.lt_of_lt_of_le N3.out.2.2.2 hb.size
  clear hb R3 B3 C4 N3
  have N4 := Lib.hid (new_row2 (old := #[.int .u8 0, .int .u32 0, .string ⟨#[]⟩, .int .u32 0]) (cs := #[.int .u8 DK, .int .u32 DI, .string DN, .int .u32 DC]) (t := 47) R4.out)
  have N5 := Lib.hid (new_row2 (old := #[.int .u8 0, .int .u32 0, .string ⟨#[]⟩, .int .u32 0]) (cs := #[.int .u8 DK, .int .u32 DI, .string DN, .int .u32 DC]) (t := 47) S4.out)
  go_wp2_with (refine wpList_store_row rfl 47 (.tmp 11) (.tmp 31) rfl w4.heap.size #[.int .u8 DK, .int .u32 DI, .string DN, .int .u32 DC] rfl rfl 47 #[.int .u8 0, .int .u32 0, .string ⟨#[]⟩, .int .u32 0] (heap_alloc_new w4 _) (by kernel_rfl) rfl (row4 _ _ _ _) ?_; change wpList _ _ _ _ _ ((w4.alloc (.cells #[.int .u8 0, .int .u32 0, .string ⟨#[]⟩, .int .u32 0] 47)).setRow w4.heap.size #[.int .u8 DK, .int .u32 DI, .string DN, .int .u32 DC]); generalize ((w4.alloc (.cells #[.int .u8 0, .int .u32 0, .string ⟨#[]⟩, .int .u32 0] 47)).setRow w4.heap.size #[.int .u8 DK, .int .u32 DI, .string DN, .int .u32 DC]) = V4 at *)
  have B5 := Lib.hid (B4.out.trans (N4.out.2.2.1.mono B4.out.size))
  have r0 := N4.out.1
  have r1 := N5.out.1
  have r2 := N4.out.2.1
  have k2 := N4.out.2.2.2
  have k1 : w3.heap.size < V4.heap.size := by omega
  have k0 : w.heap.size < V4.heap.size := by omega
  have c0 : V4.cell? ⟨w.heap.size, 0, none⟩ = some (.int .u8 K) := (cell_of_row V4 w.heap.size 0 #[.int .u8 K, .int .u32 I, .string N, .int .u32 C] 47 (0, 0) r0).trans rfl
  have c1 : V4.cell? ⟨w.heap.size, 1, none⟩ = some (.int .u32 I) := (cell_of_row V4 w.heap.size 1 #[.int .u8 K, .int .u32 I, .string N, .int .u32 C] 47 (0, 0) r0).trans rfl
  refine wp_region_G (fun w' => Below V4.heap.size V4 w') (by kernel_rfl) (by kernel_rfl) (Below.refl _ _).drew ?_
  refine wpG_call (.bool true) 30 #[] rfl (by rfl) (fun w' => by go_simp) (fun w' hSw => (lives_in w').mono fun e w2 h => ⟨h.1, hSw.trans (h.2.mono hSw.size)⟩) ?_
  simp only [List.setIfInBounds_toArray, List.set_cons_zero, List.set_cons_succ]
  refine wpG_val (.bool true) rfl (by rfl) (fun w' hSw => by go_simp) ?_
  simp only [List.setIfInBounds_toArray, List.set_cons_zero, List.set_cons_succ]
  refine wpG_val (.string a) rfl (by rfl) (fun w' hSw => by go_simp) ?_
  simp only [List.setIfInBounds_toArray, List.set_cons_zero, List.set_cons_succ]
  refine wpG_val (.string a) rfl (by rfl) (fun w' hSw => by go_simp) ?_
  simp only [List.setIfInBounds_toArray, List.set_cons_zero, List.set_cons_succ]
  refine wpG_val (.bool true) rfl (by rfl) (fun w' hSw => by go_simp) ?_
  simp only [List.setIfInBounds_toArray, List.set_cons_zero, List.set_cons_succ]
  refine wpG_val (.bool true) rfl (by rfl) (fun w' hSw => by go_simp) ?_
  simp only [List.setIfInBounds_toArray, List.set_cons_zero, List.set_cons_succ]
  refine wpG_val (.bool true) rfl (by rfl) (fun w' hSw => by go_simp) ?_
  simp only [List.setIfInBounds_toArray, List.set_cons_zero, List.set_cons_succ]
  refine wpG_val (.int .i64 x) rfl (by rfl) (fun w' hSw => by go_simp) ?_
  simp only [List.setIfInBounds_toArray, List.set_cons_zero, List.set_cons_succ]
  refine wpG_val (.int .i64 x) rfl (by rfl) (fun w' hSw => by go_simp) ?_
  simp only [List.setIfInBounds_toArray, List.set_cons_zero, List.set_cons_succ]
  refine wpG_val (.bool true) rfl (by rfl) (fun w' hSw => by go_simp) ?_
  simp only [List.setIfInBounds_toArray, List.set_cons_zero, List.set_cons_succ]
  refine wpG_val (.bool true) rfl (by rfl) (fun w' hSw => by go_simp) ?_
  simp only [List.setIfInBounds_toArray, List.set_cons_zero, List.set_cons_succ]
  refine wpG_val (.bool true) rfl (by rfl) (fun w' hSw => by go_simp) ?_
  simp only [List.setIfInBounds_toArray, List.set_cons_zero, List.set_cons_succ]
  refine wpG_val (.agg #[.int .u8 DK, .int .u32 DI, .string DN, .int .u32 DC]) rfl (by rfl) (fun w' hSw => by have r := (hSw.block _ k1).trans r1; exact row_run 47 rfl w3.heap.size rfl _ _ (0, 0) _ r Try.underlying47 rfl (by kernel_rfl)) ?_
  simp only [List.setIfInBounds_toArray, List.set_cons_zero, List.set_cons_succ]
  refine wpG_val (.agg #[.int .u8 DK, .int .u32 DI, .string DN, .int .u32 DC]) rfl (by rfl) (fun w' hSw => by have r := (hSw.block _ k2).trans r2; exact row_run 47 rfl w4.heap.size rfl _ _ (0, 0) _ r Try.underlying47 rfl (by kernel_rfl)) ?_
  simp only [List.setIfInBounds_toArray, List.set_cons_zero, List.set_cons_succ]
  refine wpG_val (.bool true) rfl (by rfl) (fun w' hSw => by have h := HEQ.out w'; have g := guardK; go_simp) ?_
  simp only [List.setIfInBounds_toArray, List.set_cons_zero, List.set_cons_succ]
  refine wpG_val (.bool true) rfl (by rfl) (fun w' hSw => by go_simp) ?_
  simp only [List.setIfInBounds_toArray, List.set_cons_zero, List.set_cons_succ]
  refine wpG_val (.bool true) rfl (by rfl) (fun w' hSw => by go_simp) ?_
  simp only [List.setIfInBounds_toArray, List.set_cons_zero, List.set_cons_succ]
  refine wpG_val (.int .i64 y) rfl (by rfl) (fun w' hSw => by go_simp) ?_
  simp only [List.setIfInBounds_toArray, List.set_cons_zero, List.set_cons_succ]
  refine wpG_val (.int .i64 y) rfl (by rfl) (fun w' hSw => by go_simp) ?_
  simp only [List.setIfInBounds_toArray, List.set_cons_zero, List.set_cons_succ]
  refine wpG_val (.bool true) rfl (by rfl) (fun w' hSw => by go_simp) ?_
  simp only [List.setIfInBounds_toArray, List.set_cons_zero, List.set_cons_succ]
  refine wpG_val (.bool true) rfl (by rfl) (fun w' hSw => by go_simp) ?_
  simp only [List.setIfInBounds_toArray, List.set_cons_zero, List.set_cons_succ]
  refine wpG_val (.bool true) rfl (by rfl) (fun w' hSw => by go_simp) ?_
  simp only [List.setIfInBounds_toArray, List.set_cons_zero, List.set_cons_succ]
  refine wpG_val (.pointer (some ⟨w.heap.size, 0, none⟩)) rfl (by rfl) (fun w' hSw => by go_simp) ?_
  simp only [List.setIfInBounds_toArray, List.set_cons_zero, List.set_cons_succ]
  refine wpG_val (.int .u8 K) rfl (by rfl) (fun w' hSw => by have c := (Below.cell hSw (p := ⟨w.heap.size, 0, none⟩) k0).trans c0; go_simp) ?_
  simp only [List.setIfInBounds_toArray, List.set_cons_zero, List.set_cons_succ]
  refine wpG_val (.pointer (some ⟨w.heap.size, 1, none⟩)) rfl (by rfl) (fun w' hSw => by go_simp) ?_
  simp only [List.setIfInBounds_toArray, List.set_cons_zero, List.set_cons_succ]
  refine wpG_val (.int .u32 I) rfl (by rfl) (fun w' hSw => by have c := (Below.cell hSw (p := ⟨w.heap.size, 1, none⟩) k0).trans c1; go_simp) ?_
  simp only [List.setIfInBounds_toArray, List.set_cons_zero, List.set_cons_succ]
  refine wpG_call (.string P) 37 #[.int .u8 K, .int .u32 I] rfl (by rfl) (fun w' => by go_simp) (fun w' hSw => (C5.out w').mono fun e w2 h => ⟨h.1, hSw.trans (h.2.mono hSw.size)⟩) ?_
  simp only [List.setIfInBounds_toArray, List.set_cons_zero, List.set_cons_succ]
  refine wpG_val (.pointer (some ⟨w.heap.size, 0, none⟩)) rfl (by rfl) (fun w' hSw => by go_simp) ?_
  simp only [List.setIfInBounds_toArray, List.set_cons_zero, List.set_cons_succ]
  refine wpG_val (.int .u8 K) rfl (by rfl) (fun w' hSw => by have c := (Below.cell hSw (p := ⟨w.heap.size, 0, none⟩) k0).trans c0; go_simp) ?_
  simp only [List.setIfInBounds_toArray, List.set_cons_zero, List.set_cons_succ]
  refine wpG_val (.pointer (some ⟨w.heap.size, 1, none⟩)) rfl (by rfl) (fun w' hSw => by go_simp) ?_
  simp only [List.setIfInBounds_toArray, List.set_cons_zero, List.set_cons_succ]
  refine wpG_val (.int .u32 I) rfl (by rfl) (fun w' hSw => by have c := (Below.cell hSw (p := ⟨w.heap.size, 1, none⟩) k0).trans c1; go_simp) ?_
  simp only [List.setIfInBounds_toArray, List.set_cons_zero, List.set_cons_succ]
  refine wpG_call (.string P) 38 #[.int .u8 K, .int .u32 I] rfl (by rfl) (fun w' => by go_simp) (fun w' hSw => (C6.out w').mono fun e w2 h => ⟨h.1, hSw.trans (h.2.mono hSw.size)⟩) ?_
  simp only [List.setIfInBounds_toArray, List.set_cons_zero, List.set_cons_succ]
  refine wpG_val (.bool true) rfl (by rfl) (fun w' hSw => by go_simp) ?_
  simp only [List.setIfInBounds_toArray, List.set_cons_zero, List.set_cons_succ]
  refine wpG_val (.bool true) rfl (by rfl) (fun w' hSw => by go_simp) ?_
  simp only [List.setIfInBounds_toArray, List.set_cons_zero, List.set_cons_succ]
  refine wpG_val (.bool true) rfl (by rfl) (fun w' hSw => by go_simp) ?_
  simp only [List.setIfInBounds_toArray, List.set_cons_zero, List.set_cons_succ]
  refine wpG_nil ?_
  intro wS hSw
  go_wp2
  go_ret
  exact ⟨rfl, B5.out.trans (hSw.mono B5.out.size)⟩
end Go.Proofs.Ytkmbophbjgfacaa.Ino
