/- The laws' own question of package inode. -/
import Derived.Test.YtkmbophbjgfacaaInE
namespace Go.Proofs.Ytkmbophbjgfacaa.Ino
set_option linter.unusedVariables false
set_option linter.unusedSimpArgs false
open Go.ChangeShapes Go.WideShapes Go.ChangeAt Go.RowKit
open BigFrame
open Rg
open Pk (be num be_length num_be num_lt bs bs_size nB nE tN tR tE xB_size)
open Ph (has tl tl_len nb)
def pA : ByteArray := ⟨#[47, 97]⟩
def n0 : In := ⟨3, 0, 1, 2, pA⟩
def n1 : In := ⟨1, 0, 2, 0, ByteArray.empty⟩
def k0 : Ky := ⟨2, 1, ⟨#[97]⟩, 0⟩
def k1 : Ky := ⟨3, 2, ByteArray.empty, 3⟩
theorem n0_ok : okI n0 = true := by decide
theorem n0_lim : n0.lim := ⟨by decide, by decide, by decide, by decide⟩
theorem n1_no : okI n1 = false := by decide
theorem n1_lim : n1.lim := ⟨by decide, by decide, by decide, by decide⟩
theorem k0_ok : okK k0 = true := by decide
theorem k0_lim : k0.lim := ⟨by decide, by decide, by decide⟩
theorem k1_ok : okK k1 = true := by decide
theorem k1_lim : k1.lim := ⟨by decide, by decide, by decide⟩
theorem bs_cat (a b : List UInt8) : (bs a ++ bs b).data.toList = a ++ b := by
  rw [ByteArray.data_append, Array.toList_append]; rfl
theorem k0_list : (wrK k0).toList = [100, 0, 0, 0, 1, 97] := by
  rw [tl, wrK_eq k0_ok, ByteArray.data_append, Array.toList_append, ByteArray.data_append, Array.toList_append]
  decide
theorem k1_bytes : wrK k1 = ⟨#[99, 0, 0, 0, 2, 0, 0, 0, 3]⟩ := by
  apply ByteArray.ext
  apply Array.toList_inj.1
  rw [wrK_eq k1_ok, ByteArray.data_append, Array.toList_append, ByteArray.data_append, Array.toList_append]
  decide
theorem k1_de : deK ⟨#[99, 0, 0, 0, 2, 0, 0, 0, 3]⟩ = k1 ∧ deKE ⟨#[99, 0, 0, 0, 2, 0, 0, 0, 3]⟩ = 0 := by
  rw [← k1_bytes]
  exact deK_back k1_lim k1_ok
set_option maxRecDepth 100000 in
set_option maxHeartbeats 4000000 in
theorem lives_in (w : World) : Calls Try.prog 30 #[] w fun e w' => e = .returned (.bool true) ∧ Below w.heap.size w w' := by
  obtain ⟨s1, hs1⟩ : ∃ s, wrI n0 = s := ⟨_, rfl⟩
  obtain ⟨kS, hkS⟩ : ∃ s, wrK k0 = s := ⟨_, rfl⟩
  have C1 := Lib.hid (encode_in n0 n0_lim)
  rw [(chI_yes n0_ok).1, (chI_yes n0_ok).2, hs1] at C1
  have z1 : s1.size = 15 := by rw [← hs1, wrI_size n0 (by decide)]; rfl
  have C2 := Lib.hid (decode_in s1 (by rw [z1]; decide))
  rw [← hs1, (deI_back n0_lim n0_ok).1, (deI_back n0_lim n0_ok).2, hs1] at C2
  have C3 := Lib.hid (encode_in n1 n1_lim)
  rw [(chI_no n1_no).1, (chI_no n1_no).2] at C3
  have C4 := Lib.hid (key_in k0 k0_lim)
  rw [(chK_yes k0_ok).1, (chK_yes k0_ok).2, hkS] at C4
  have hkl : kS.toList = [100, 0, 0, 0, 1, 97] := by rw [← hkS]; exact k0_list
  have kz : kS.size = 6 := by rw [← tl_len, hkl]; rfl
  have q1 : (kS.toList == [100, 0, 0, 0, 1, 97]) = true := by rw [hkl]; rfl
  have C5 := Lib.hid (parse_in ⟨#[99, 0, 0, 0, 2, 0, 0, 0, 3]⟩ (by decide))
  rw [k1_de.1, k1_de.2] at C5
  have C6 := Lib.hid (fun w => prefix_in 2 1 (by omega) (by omega) w)
  obtain ⟨P, hP⟩ : ∃ P, pfx 2 1 = P := ⟨_, rfl⟩
  rw [hP] at C6
  have hcut : kS.extract 0 5 = P := by rw [← hkS, ← hP]; exact (wrK_pfx k0_ok).2.1
  have q2 : (P.toList == (kS.extract 0 5).toList) = true := by rw [hcut]; exact beq_self_eq_true _
  have q3 : (pA.toList == [47, 97]) = true := by rw [tl]; rfl
  have HEQ := Lib.hid (fun w => eq_key k1 ⟨3, 2, ⟨#[]⟩, 3⟩ w)
  have HQ1 := Lib.hid q1
  clear q1 hs1 hkS hkl hP hcut
  go_enter Try.func30, Try.ntmps30
  go_wp2_with fail
  refine (C1.out _).mono ?_
  rintro e w1 ⟨rfl, hb⟩
  have B1 := Lib.hid hb
  clear hb C1
  go_wp2_with fail
  refine (C2.out _).mono ?_
  rintro e w2 ⟨rfl, hb⟩
  have B2 := Lib.hid (B1.out.trans (hb.mono B1.out.size))
  clear hb C2 B1
  have R2 := Lib.hid (setRow_heap' (cs := #[.int .u8 (3 : Nat), .int .u16 (0 : Nat), .int .u32 (1 : Nat), .int .u32 (2 : Nat), .string pA]) (heap_alloc_new w2 (.cells #[.int .u8 0, .int .u16 0, .int .u32 0, .int .u32 0, .string ⟨#[]⟩] 39)))
  have D2 := Lib.hid (below_setRow ((Below.refl w2.heap.size w2).alloc (Nat.le_refl _) (.cells #[.int .u8 0, .int .u16 0, .int .u32 0, .int .u32 0, .string ⟨#[]⟩] 39)) (Nat.le_refl _) #[.int .u8 (3 : Nat), .int .u16 (0 : Nat), .int .u32 (1 : Nat), .int .u32 (2 : Nat), .string pA])
  have l2 : w2.heap.size < ((w2.alloc (.cells #[.int .u8 0, .int .u16 0, .int .u32 0, .int .u32 0, .string ⟨#[]⟩] 39)).setRow w2.heap.size #[.int .u8 (3 : Nat), .int .u16 (0 : Nat), .int .u32 (1 : Nat), .int .u32 (2 : Nat), .string pA]).heap.size := by simp [World.setRow]
  unfold n0 vI
  go_wp2_with (refine wpList_store_row rfl 39 (.tmp 3) (.tmp 19) rfl w2.heap.size #[.int .u8 (3 : Nat), .int .u16 (0 : Nat), .int .u32 (1 : Nat), .int .u32 (2 : Nat), .string pA] rfl rfl 39 #[.int .u8 0, .int .u16 0, .int .u32 0, .int .u32 0, .string ⟨#[]⟩] (heap_alloc_new w2 _) (by kernel_rfl) rfl (row5 _ _ _ _ _) ?_; change wpList _ _ _ _ _ ((w2.alloc (.cells #[.int .u8 0, .int .u16 0, .int .u32 0, .int .u32 0, .string ⟨#[]⟩] 39)).setRow w2.heap.size #[.int .u8 (3 : Nat), .int .u16 (0 : Nat), .int .u32 (1 : Nat), .int .u32 (2 : Nat), .string pA]); generalize ((w2.alloc (.cells #[.int .u8 0, .int .u16 0, .int .u32 0, .int .u32 0, .string ⟨#[]⟩] 39)).setRow w2.heap.size #[.int .u8 (3 : Nat), .int .u16 (0 : Nat), .int .u32 (1 : Nat), .int .u32 (2 : Nat), .string pA]) = V2 at *)
  refine (C3.out _).mono ?_
  rintro e w3 ⟨rfl, hb⟩
  have B3 := Lib.hid (B2.out.trans ((D2.out.trans (hb.mono D2.out.size)).mono B2.out.size))
  have R3 := Lib.hid (row_bel R2.out hb l2)
  have l3 := Nat.lt_of_lt_of_le l2 hb.size
  clear hb C3 B2 R2 D2 l2
  go_wp2_with fail
  refine (C4.out _).mono ?_
  rintro e w4 ⟨rfl, hb⟩
  have B4 := Lib.hid (B3.out.trans (hb.mono B3.out.size))
  have R4 := Lib.hid (row_bel R3.out hb l3)
  have l4 := Nat.lt_of_lt_of_le l3 hb.size
  clear hb C4 B3 R3 l3
  go_wp2_with fail
  refine (C5.out _).mono ?_
  rintro e w5 ⟨rfl, hb⟩
  have B5 := Lib.hid (B4.out.trans (hb.mono B4.out.size))
  have R5 := Lib.hid (row_bel R4.out hb l4)
  have l5 := Nat.lt_of_lt_of_le l4 hb.size
  clear hb C5 B4 R4 l4
  have S5 := Lib.hid (setRow_heap' (cs := #[.int .u8 (3 : Nat), .int .u32 (2 : Nat), .string ByteArray.empty, .int .u32 (3 : Nat)]) (heap_alloc_new w5 (.cells #[.int .u8 0, .int .u32 0, .string ⟨#[]⟩, .int .u32 0] 47)))
  have D5 := Lib.hid (below_setRow ((Below.refl w5.heap.size w5).alloc (Nat.le_refl _) (.cells #[.int .u8 0, .int .u32 0, .string ⟨#[]⟩, .int .u32 0] 47)) (Nat.le_refl _) #[.int .u8 (3 : Nat), .int .u32 (2 : Nat), .string ByteArray.empty, .int .u32 (3 : Nat)])
  have m5 : w5.heap.size < ((w5.alloc (.cells #[.int .u8 0, .int .u32 0, .string ⟨#[]⟩, .int .u32 0] 47)).setRow w5.heap.size #[.int .u8 (3 : Nat), .int .u32 (2 : Nat), .string ByteArray.empty, .int .u32 (3 : Nat)]).heap.size := by simp [World.setRow]
  unfold k1 vK
  go_wp2_with (refine wpList_store_row rfl 47 (.tmp 9) (.tmp 33) rfl w5.heap.size #[.int .u8 (3 : Nat), .int .u32 (2 : Nat), .string ByteArray.empty, .int .u32 (3 : Nat)] rfl rfl 47 #[.int .u8 0, .int .u32 0, .string ⟨#[]⟩, .int .u32 0] (heap_alloc_new w5 _) (by kernel_rfl) rfl (row4 _ _ _ _) ?_; change wpList _ _ _ _ _ ((w5.alloc (.cells #[.int .u8 0, .int .u32 0, .string ⟨#[]⟩, .int .u32 0] 47)).setRow w5.heap.size #[.int .u8 (3 : Nat), .int .u32 (2 : Nat), .string ByteArray.empty, .int .u32 (3 : Nat)]); generalize ((w5.alloc (.cells #[.int .u8 0, .int .u32 0, .string ⟨#[]⟩, .int .u32 0] 47)).setRow w5.heap.size #[.int .u8 (3 : Nat), .int .u32 (2 : Nat), .string ByteArray.empty, .int .u32 (3 : Nat)]) = V5 at *)
  have R6 := row_bel R5.out D5.out l5
  have l6 : w2.heap.size < V5.heap.size := by omega
  have c4 : V5.cell? ⟨w2.heap.size, 4, none⟩ = some (.string pA) := (cell_of_row V5 w2.heap.size 4 #[.int .u8 (3 : Nat), .int .u16 (0 : Nat), .int .u32 (1 : Nat), .int .u32 (2 : Nat), .string pA] 39 (0, 0) R6).trans rfl
  have S6 := S5.out
  have B6 := Lib.hid (B5.out.trans (D5.out.mono B5.out.size))
  have q1 := HQ1.out
  refine wp_region_G (fun w' => Below V5.heap.size V5 w') (by kernel_rfl) (by kernel_rfl) (Below.refl _ _).drew ?_
  refine wpG_val (.string s1) rfl (by rfl) (fun w' hSw => by go_simp) ?_
  simp only [List.setIfInBounds_toArray, List.set_cons_zero, List.set_cons_succ]
  refine wpG_val (.int .i64 15) rfl (by rfl) (fun w' hSw => by go_simp) ?_
  simp only [List.setIfInBounds_toArray, List.set_cons_zero, List.set_cons_succ]
  refine wpG_val (.bool true) rfl (by rfl) (fun w' hSw => by go_simp) ?_
  simp only [List.setIfInBounds_toArray, List.set_cons_zero, List.set_cons_succ]
  refine wpG_val (.bool true) rfl (by rfl) (fun w' hSw => by go_simp) ?_
  simp only [List.setIfInBounds_toArray, List.set_cons_zero, List.set_cons_succ]
  refine wpG_val (.int .i64 0) rfl (by rfl) (fun w' hSw => by go_simp) ?_
  simp only [List.setIfInBounds_toArray, List.set_cons_zero, List.set_cons_succ]
  refine wpG_val (.bool true) rfl (by rfl) (fun w' hSw => by go_simp) ?_
  simp only [List.setIfInBounds_toArray, List.set_cons_zero, List.set_cons_succ]
  refine wpG_val (.bool true) rfl (by rfl) (fun w' hSw => by go_simp) ?_
  simp only [List.setIfInBounds_toArray, List.set_cons_zero, List.set_cons_succ]
  refine wpG_val (.bool true) rfl (by rfl) (fun w' hSw => by go_simp) ?_
  simp only [List.setIfInBounds_toArray, List.set_cons_zero, List.set_cons_succ]
  refine wpG_val (.pointer (some ⟨w2.heap.size, 4, none⟩)) rfl (by rfl) (fun w' hSw => by go_simp) ?_
  simp only [List.setIfInBounds_toArray, List.set_cons_zero, List.set_cons_succ]
  refine wpG_val (.string pA) rfl (by rfl) (fun w' hSw => by have c := (Below.cell hSw (p := ⟨w2.heap.size, 4, none⟩) l6).trans c4; go_simp) ?_
  simp only [List.setIfInBounds_toArray, List.set_cons_zero, List.set_cons_succ]
  refine wpG_val (.bool true) rfl (by rfl) (fun w' hSw => by go_simp) ?_
  simp only [List.setIfInBounds_toArray, List.set_cons_zero, List.set_cons_succ]
  refine wpG_val (.bool true) rfl (by rfl) (fun w' hSw => by go_simp) ?_
  simp only [List.setIfInBounds_toArray, List.set_cons_zero, List.set_cons_succ]
  refine wpG_val (.bool true) rfl (by rfl) (fun w' hSw => by go_simp) ?_
  simp only [List.setIfInBounds_toArray, List.set_cons_zero, List.set_cons_succ]
  refine wpG_val (.int .i64 0) rfl (by rfl) (fun w' hSw => by go_simp) ?_
  simp only [List.setIfInBounds_toArray, List.set_cons_zero, List.set_cons_succ]
  refine wpG_val (.bool true) rfl (by rfl) (fun w' hSw => by go_simp) ?_
  simp only [List.setIfInBounds_toArray, List.set_cons_zero, List.set_cons_succ]
  refine wpG_val (.bool true) rfl (by rfl) (fun w' hSw => by go_simp) ?_
  simp only [List.setIfInBounds_toArray, List.set_cons_zero, List.set_cons_succ]
  refine wpG_val (.bool true) rfl (by rfl) (fun w' hSw => by go_simp) ?_
  simp only [List.setIfInBounds_toArray, List.set_cons_zero, List.set_cons_succ]
  refine wpG_val (.int .i64 4) rfl (by rfl) (fun w' hSw => by go_simp) ?_
  simp only [List.setIfInBounds_toArray, List.set_cons_zero, List.set_cons_succ]
  refine wpG_val (.bool true) rfl (by rfl) (fun w' hSw => by go_simp) ?_
  simp only [List.setIfInBounds_toArray, List.set_cons_zero, List.set_cons_succ]
  refine wpG_val (.bool true) rfl (by rfl) (fun w' hSw => by go_simp) ?_
  simp only [List.setIfInBounds_toArray, List.set_cons_zero, List.set_cons_succ]
  refine wpG_val (.bool true) rfl (by rfl) (fun w' hSw => by go_simp) ?_
  simp only [List.setIfInBounds_toArray, List.set_cons_zero, List.set_cons_succ]
  refine wpG_val (.string kS) rfl (by rfl) (fun w' hSw => by go_simp) ?_
  simp only [List.setIfInBounds_toArray, List.set_cons_zero, List.set_cons_succ]
  refine wpG_val (.bool true) rfl (by rfl) (fun w' hSw => by go_simp) ?_
  simp only [List.setIfInBounds_toArray, List.set_cons_zero, List.set_cons_succ]
  refine wpG_val (.bool true) rfl (by rfl) (fun w' hSw => by go_simp) ?_
  simp only [List.setIfInBounds_toArray, List.set_cons_zero, List.set_cons_succ]
  refine wpG_val (.bool true) rfl (by rfl) (fun w' hSw => by go_simp) ?_
  simp only [List.setIfInBounds_toArray, List.set_cons_zero, List.set_cons_succ]
  refine wpG_val (.int .i64 0) rfl (by rfl) (fun w' hSw => by go_simp) ?_
  simp only [List.setIfInBounds_toArray, List.set_cons_zero, List.set_cons_succ]
  refine wpG_val (.bool true) rfl (by rfl) (fun w' hSw => by go_simp) ?_
  simp only [List.setIfInBounds_toArray, List.set_cons_zero, List.set_cons_succ]
  refine wpG_val (.bool true) rfl (by rfl) (fun w' hSw => by go_simp) ?_
  simp only [List.setIfInBounds_toArray, List.set_cons_zero, List.set_cons_succ]
  refine wpG_val (.bool true) rfl (by rfl) (fun w' hSw => by go_simp) ?_
  simp only [List.setIfInBounds_toArray, List.set_cons_zero, List.set_cons_succ]
  refine wpG_val (.agg #[.int .u8 (3 : Nat), .int .u32 (2 : Nat), .string ByteArray.empty, .int .u32 (3 : Nat)]) rfl (by rfl) (fun w' hSw => by have r := (hSw.block _ m5).trans S6; exact row_run 47 rfl w5.heap.size rfl _ _ (0, 0) _ r Try.underlying47 rfl (by kernel_rfl)) ?_
  simp only [List.setIfInBounds_toArray, List.set_cons_zero, List.set_cons_succ]
  refine wpG_val (.agg #[.int .u8 3, .int .u32 2, .string ⟨#[]⟩, .int .u32 3]) rfl (by rfl) (fun w' hSw => by go_simp) ?_
  simp only [List.setIfInBounds_toArray, List.set_cons_zero, List.set_cons_succ]
  refine wpG_val (.bool true) rfl (by rfl) (fun w' hSw => by have h := HEQ.out w'; have g := guardK; go_simp) ?_
  simp only [List.setIfInBounds_toArray, List.set_cons_zero, List.set_cons_succ]
  refine wpG_val (.bool true) rfl (by rfl) (fun w' hSw => by go_simp) ?_
  simp only [List.setIfInBounds_toArray, List.set_cons_zero, List.set_cons_succ]
  refine wpG_val (.bool true) rfl (by rfl) (fun w' hSw => by go_simp) ?_
  simp only [List.setIfInBounds_toArray, List.set_cons_zero, List.set_cons_succ]
  refine wpG_val (.int .i64 0) rfl (by rfl) (fun w' hSw => by go_simp) ?_
  simp only [List.setIfInBounds_toArray, List.set_cons_zero, List.set_cons_succ]
  refine wpG_val (.bool true) rfl (by rfl) (fun w' hSw => by go_simp) ?_
  simp only [List.setIfInBounds_toArray, List.set_cons_zero, List.set_cons_succ]
  refine wpG_val (.bool true) rfl (by rfl) (fun w' hSw => by go_simp) ?_
  simp only [List.setIfInBounds_toArray, List.set_cons_zero, List.set_cons_succ]
  refine wpG_val (.bool true) rfl (by rfl) (fun w' hSw => by go_simp) ?_
  simp only [List.setIfInBounds_toArray, List.set_cons_zero, List.set_cons_succ]
  refine wpG_call (.string P) 37 #[.int .u8 2, .int .u32 1] rfl (by rfl) (fun w' => by go_simp) (fun w' hSw => (C6.out w').mono fun e w2 h => ⟨h.1, hSw.trans (h.2.mono hSw.size)⟩) ?_
  simp only [List.setIfInBounds_toArray, List.set_cons_zero, List.set_cons_succ]
  refine wpG_val (.string kS) rfl (by rfl) (fun w' hSw => by go_simp) ?_
  simp only [List.setIfInBounds_toArray, List.set_cons_zero, List.set_cons_succ]
  refine wpG_val (.string (kS.extract 0 5)) rfl (by rfl) (fun w' hSw => by go_simp) ?_
  simp only [List.setIfInBounds_toArray, List.set_cons_zero, List.set_cons_succ]
  refine wpG_val (.bool true) rfl (by rfl) (fun w' hSw => by go_simp) ?_
  simp only [List.setIfInBounds_toArray, List.set_cons_zero, List.set_cons_succ]
  refine wpG_val (.bool true) rfl (by rfl) (fun w' hSw => by go_simp) ?_
  simp only [List.setIfInBounds_toArray, List.set_cons_zero, List.set_cons_succ]
  refine wpG_val (.bool true) rfl (by rfl) (fun w' hSw => by go_simp) ?_
  simp only [List.setIfInBounds_toArray, List.set_cons_zero, List.set_cons_succ]
  refine wpG_nil ?_
  intro wS hSw
  go_wp2
  go_ret
  exact ⟨rfl, B6.out.trans (hSw.mono B6.out.size)⟩
end Go.Proofs.Ytkmbophbjgfacaa.Ino
