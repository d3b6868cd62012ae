/- The walk of the law InodePrefixes: it answers true. -/
import Derived.Test.YtkmbophbjgfacaaInG
namespace Go.Proofs.Ytkmbophbjgfacaa.Ino
set_option linter.unusedVariables false
set_option linter.unusedSimpArgs false
open Go.ChangeShapes Go.WideShapes Go.ChangeAt Go.RowKit
open BigFrame
open Rg
open Pk (be num be_length num_be num_lt bs bs_size nB nE tN tR tE xB_size bytesLess_be)
open Ph (has tl tl_len nb)
theorem bl_app (p x y : List UInt8) : Op.bytesLess (p ++ x) (p ++ y) = Op.bytesLess x y := by
  induction p with
  | nil => rfl
  | cons a p ih =>
    show (decide (a < a) || (a == a && Op.bytesLess (p ++ x) (p ++ y))) = _
    rw [ih, beq_self_eq_true]
    simp [UInt8.lt_irrefl]
theorem two_keys {p q : Ky} (lp : p.lim) (lq : q.lim) (hp : okK p = true) (hq : okK q = true) :
    5 ≤ (wrK p).size ∧ (wrK p).size ≤ 29 ∧ 5 ≤ (wrK q).size ∧ (wrK q).size ≤ 29 ∧ ((wrK p).toList == (wrK q).toList) = eqK p q ∧
    ((p.K = q.K ∧ p.I = q.I ∧ (((wrK p).extract 0 5).toList == ((wrK q).extract 0 5).toList) = true ∧ (p.K = 3 → Op.bytesLess (wrK p).toList (wrK q).toList = decide ((p.C : Int) < (q.C : Int)))) ∨
      ((p.K = q.K → p.I ≠ q.I) ∧ (((wrK p).extract 0 5).toList == ((wrK q).extract 0 5).toList) = false)) := by
  have ep := wrK_pfx hp
  have eq := wrK_pfx hq
  refine ⟨ep.2.2.1, ep.2.2.2, eq.2.2.1, eq.2.2.2, ?_, ?_⟩
  · rw [str_same, Bool.eq_iff_iff, decide_eq_true_iff, eqK_iff]
    exact ⟨wrK_inj lp lq hp hq, fun h => by rw [h]⟩
  · rw [ep.2.1, eq.2.1, str_same]
    by_cases h : p.K = q.K ∧ p.I = q.I
    · refine .inl ⟨h.1, h.2, by rw [h.1, h.2]; exact decide_eq_true rfl, fun h3 => ?_⟩
      rw [ep.1, eq.1, if_pos h3, if_pos (h.1 ▸ h3), h.1, h.2, ByteArray.toList_eq, ByteArray.toList_eq, ByteArray.data_append, ByteArray.data_append, Array.toList_append, Array.toList_append, bl_app]
      show Op.bytesLess (be 4 p.C) (be 4 q.C) = _
      have h1 := lp.2.2
      have h2 := lq.2.2
      rw [bytesLess_be, Nat.mod_eq_of_lt (by simpa using h1), Nat.mod_eq_of_lt (by simpa using h2), Bool.eq_iff_iff, decide_eq_true_iff, decide_eq_true_iff]
      omega
    · refine .inr ⟨fun h1 h2 => h ⟨h1, h2⟩, ?_⟩
      rw [decide_eq_false_iff_not]
      exact fun hh => h (pfx_inj lp lq hp hq hh)
theorem key_ifs {K I C K2 I2 C2 : Nat} {N N2 : ByteArray} {q : Bool} (h : eqK ⟨K, I, N, C⟩ ⟨K2, I2, N2, C2⟩ = q) (w' : World) :
    (if (K : Int) = (K2 : Int) then if (I : Int) = (I2 : Int) then if N.toList = N2.toList then
      if (C : Int) = (C2 : Int) then Result.ok (Next.value (Value.bool true)) w' else Result.ok (Next.value (Value.bool false)) w'
    else Result.ok (Next.value (Value.bool false)) w' else Result.ok (Next.value (Value.bool false)) w' else Result.ok (Next.value (Value.bool false)) w') =
    Result.ok (Next.value (Value.bool q)) w' := by
  have hn : (N.toList = N2.toList) = (N = N2) := by rw [ByteArray.toList_eq, ByteArray.toList_eq]; exact propext bytes_eq
  rw [← h]
  simp only [hn]
  unfold eqK
  by_cases h1 : K = K2 <;> by_cases h2 : I = I2 <;> by_cases h3 : N = N2 <;> by_cases h4 : C = C2 <;> simp [h1, h2, h3, h4] <;> omega
set_option maxRecDepth 100000 in
set_option maxHeartbeats 4000000 in
theorem inodePrefixes_walk (w : World) (n0 : Ky) (hl : n0.lim) (k0 : Ky) (hk : k0.lim) :
    Calls Try.prog 12 #[vK n0, vK k0] w fun e w' => e = .returned (.bool true) ∧ Below w.heap.size w w' := by
  have CI := Lib.hid (key_in n0 hl)
  have CK := Lib.hid (key_in k0 hk)
  have HIN := Lib.hid (fun h : okK n0 = false => chK_no h)
  have HIY := Lib.hid (fun h : okK n0 = true => chK_yes h)
  have HKN := Lib.hid (fun h : okK k0 = false => chK_no h)
  have HKY := Lib.hid (fun h : okK k0 = true => chK_yes h)
  have H2 := Lib.hid (fun h1 : okK n0 = true => fun h2 : okK k0 = true => two_keys hl hk h1 h2)
  obtain ⟨ea, ha⟩ : ∃ a, enK n0 = a := ⟨_, rfl⟩
  obtain ⟨x, hx⟩ : ∃ a, chK n0 = a := ⟨_, rfl⟩
  obtain ⟨eb, hb⟩ : ∃ a, enK k0 = a := ⟨_, rfl⟩
  obtain ⟨t, ht⟩ : ∃ a, chK k0 = a := ⟨_, rfl⟩
  obtain ⟨a, hA⟩ : ∃ a, wrK n0 = a := ⟨_, rfl⟩
  obtain ⟨b, hB⟩ : ∃ a, wrK k0 = a := ⟨_, rfl⟩
  obtain ⟨q, hq⟩ : ∃ a, eqK n0 k0 = a := ⟨_, rfl⟩
  rw [ha, hx] at CI HIN HIY
  rw [hb, ht] at CK HKN HKY
  rw [hA] at HIY H2
  rw [hB] at HKY H2
  rw [hq] at H2
  clear ha hx hb ht hA hB hl hk
  obtain ⟨bi, hbi⟩ : ∃ q, okK n0 = q := ⟨_, rfl⟩
  obtain ⟨bk, hbk⟩ : ∃ q, okK k0 = q := ⟨_, rfl⟩
  rw [hbi] at HIN HIY H2
  rw [hbk] at HKN HKY H2
  clear hbi hbk
  obtain ⟨K, I, N, C⟩ := n0
  obtain ⟨K2, I2, N2, C2⟩ := k0
  have QE := Lib.hid (fun w' : World => key_ifs hq w')
  clear hq
  unfold vK at *
  dsimp only at *
  have TB := Lib.hid (two_box w #[.int .u8 K, .int .u32 I, .string N, .int .u32 C] #[.int .u8 K2, .int .u32 I2, .string N2, .int .u32 C2] 47 47)
  go_enter Try.func12, Try.ntmps12
  go_wp2_with fail
  change Calls _ _ _ ((w.alloc (.cells #[.int .u8 K, .int .u32 I, .string N, .int .u32 C] 47)).alloc (.cells #[.int .u8 K2, .int .u32 I2, .string N2, .int .u32 C2] 47)) _
  generalize ((w.alloc (.cells #[.int .u8 K, .int .u32 I, .string N, .int .u32 C] 47)).alloc (.cells #[.int .u8 K2, .int .u32 I2, .string N2, .int .u32 C2] 47)) = W at *
  refine (lives_in _).mono ?_
  rintro e w1 ⟨rfl, hb⟩
  have R1 := Lib.hid (row_bel TB.out.1 hb (by have := TB.out.2.2.2; omega))
  have Q1 := Lib.hid (row_bel TB.out.2.1 hb TB.out.2.2.2)
  have B1 := Lib.hid (TB.out.2.2.1.trans (hb.mono TB.out.2.2.1.size))
  have l1 : w.heap.size + 1 < w1.heap.size := Nat.lt_of_lt_of_le TB.out.2.2.2 hb.size
  clear hb TB
  go_wp2_with (refine wpList_load_row rfl 47 (.tmp 2) rfl w.heap.size rfl 47 #[.int .u8 K, .int .u32 I, .string N, .int .u32 C] (0, 0) _ R1.out Try.underlying47 rfl (by kernel_rfl) ?_)
  refine (CI.out _).mono ?_
  rintro e w2 ⟨rfl, hb⟩
  have R2 := Lib.hid (row_bel R1.out hb (by omega))
  have Q2 := Lib.hid (row_bel Q1.out hb l1)
  have B2 := Lib.hid (B1.out.trans (hb.mono B1.out.size))
  have l2 := Nat.lt_of_lt_of_le l1 hb.size
  clear hb R1 Q1 B1 CI
  go_wp2_with (refine wpList_load_row rfl 47 (.tmp 3) rfl (w.heap.size + 1) rfl 47 #[.int .u8 K2, .int .u32 I2, .string N2, .int .u32 C2] (0, 0) _ Q2.out Try.underlying47 rfl (by kernel_rfl) ?_)
  refine (CK.out _).mono ?_
  rintro e w5 ⟨rfl, hb⟩
  have r0 := row_bel R2.out hb (by omega)
  have r1 := row_bel Q2.out hb l2
  have B5 := Lib.hid (B2.out.trans (hb.mono B2.out.size))
  have k1 := Nat.lt_of_lt_of_le l2 hb.size
  have k0 : w.heap.size < w5.heap.size := by omega
  clear hb R2 Q2 B2 CK
  cases bi
  · have HC := Lib.hid (HIN.out rfl)
    rw [HC.out.1, HC.out.2]
    go_wp2
    go_ret
    exact ⟨rfl, B5.out⟩
  cases bk
  · have HC := Lib.hid (HIY.out rfl)
    have HD := Lib.hid (HKN.out rfl)
    rw [HC.out.1, HC.out.2, HD.out.1, HD.out.2]
    go_wp2
    go_ret
    exact ⟨rfl, B5.out⟩
  have HC := HIY.out rfl
  have HD := HKY.out rfl
  rw [HC.1, HC.2, HD.1, HD.2]
  have G := H2.out rfl rfl
  clear HC HD HIN HIY HKN HKY H2 l1 l2
  clear ea eb
  obtain ⟨g1, g2, g3, g4, g5, G⟩ := G
  have c0 : w5.cell? ⟨w.heap.size, 0, none⟩ = some (.int .u8 K) := (cell_of_row w5 w.heap.size 0 #[.int .u8 K, .int .u32 I, .string N, .int .u32 C] 47 (0, 0) r0).trans rfl
  have c1 : w5.cell? ⟨w.heap.size, 1, none⟩ = some (.int .u32 I) := (cell_of_row w5 w.heap.size 1 #[.int .u8 K, .int .u32 I, .string N, .int .u32 C] 47 (0, 0) r0).trans rfl
  have c3 : w5.cell? ⟨w.heap.size, 3, none⟩ = some (.int .u32 C) := (cell_of_row w5 w.heap.size 3 #[.int .u8 K, .int .u32 I, .string N, .int .u32 C] 47 (0, 0) r0).trans rfl
  have e0 : w5.cell? ⟨w.heap.size + 1, 0, none⟩ = some (.int .u8 K2) := (cell_of_row w5 (w.heap.size + 1) 0 #[.int .u8 K2, .int .u32 I2, .string N2, .int .u32 C2] 47 (0, 0) r1).trans rfl
  have e1 : w5.cell? ⟨w.heap.size + 1, 1, none⟩ = some (.int .u32 I2) := (cell_of_row w5 (w.heap.size + 1) 1 #[.int .u8 K2, .int .u32 I2, .string N2, .int .u32 C2] 47 (0, 0) r1).trans rfl
  have e3 : w5.cell? ⟨w.heap.size + 1, 3, none⟩ = some (.int .u32 C2) := (cell_of_row w5 (w.heap.size + 1) 3 #[.int .u8 K2, .int .u32 I2, .string N2, .int .u32 C2] 47 (0, 0) r1).trans rfl
  rcases G with ⟨s1, s2, s3, s4⟩ | ⟨s1, s3⟩
  · subst s1 s2
    by_cases h3 : K = 3
    · have s5 := s4 h3
      subst h3
      clear s4
      go_wp2_with fail
      refine wp_region_G (fun w' => Below w5.heap.size w5 w') (by kernel_rfl) (by kernel_rfl) (Below.refl _ _).drew ?_
      refine wpG_val (.string a) rfl (by rfl) (fun w' hSw => by go_simp) ?_
      simp only [List.setIfInBounds_toArray, List.set_cons_zero, List.set_cons_succ]
      refine wpG_val (.string (a.extract 0 5)) rfl (by rfl) (fun w' hSw => by go_simp; intro hh; exfalso; omega) ?_
      simp only [List.setIfInBounds_toArray, List.set_cons_zero, List.set_cons_succ]
      refine wpG_val (.string b) rfl (by rfl) (fun w' hSw => by go_simp) ?_
      simp only [List.setIfInBounds_toArray, List.set_cons_zero, List.set_cons_succ]
      refine wpG_val (.string (b.extract 0 5)) rfl (by rfl) (fun w' hSw => by go_simp; intro hh; exfalso; omega) ?_
      simp only [List.setIfInBounds_toArray, List.set_cons_zero, List.set_cons_succ]
      refine wpG_val (.bool true) rfl (by rfl) (fun w' hSw => by go_simp) ?_
      simp only [List.setIfInBounds_toArray, List.set_cons_zero, List.set_cons_succ]
      refine wpG_val (.bool true) rfl (by rfl) (fun w' hSw => by go_simp <;> omega) ?_
      simp only [List.setIfInBounds_toArray, List.set_cons_zero, List.set_cons_succ]
      refine wpG_val (.bool false) rfl (by rfl) (fun w' hSw => by go_simp) ?_
      simp only [List.setIfInBounds_toArray, List.set_cons_zero, List.set_cons_succ]
      refine wpG_val (.bool false) rfl (by rfl) (fun w' hSw => by go_simp) ?_
      simp only [List.setIfInBounds_toArray, List.set_cons_zero, List.set_cons_succ]
      refine wpG_val (.string a) rfl (by rfl) (fun w' hSw => by go_simp) ?_
      simp only [List.setIfInBounds_toArray, List.set_cons_zero, List.set_cons_succ]
      refine wpG_val (.string b) rfl (by rfl) (fun w' hSw => by go_simp) ?_
      simp only [List.setIfInBounds_toArray, List.set_cons_zero, List.set_cons_succ]
      refine wpG_val (.bool q) rfl (by rfl) (fun w' hSw => by go_simp) ?_
      simp only [List.setIfInBounds_toArray, List.set_cons_zero, List.set_cons_succ]
      refine wpG_val (.agg #[.int .u8 3, .int .u32 I, .string N, .int .u32 C]) rfl (by rfl) (fun w' hSw => by have r := (hSw.block _ k0).trans r0; exact row_run 47 rfl w.heap.size rfl _ _ (0, 0) _ r Try.underlying47 rfl (by kernel_rfl)) ?_
      simp only [List.setIfInBounds_toArray, List.set_cons_zero, List.set_cons_succ]
      refine wpG_val (.agg #[.int .u8 3, .int .u32 I, .string N2, .int .u32 C2]) rfl (by rfl) (fun w' hSw => by have r := (hSw.block _ k1).trans r1; exact row_run 47 rfl (w.heap.size + 1) rfl _ _ (0, 0) _ r Try.underlying47 rfl (by kernel_rfl)) ?_
      simp only [List.setIfInBounds_toArray, List.set_cons_zero, List.set_cons_succ]
      refine wpG_val (.bool q) rfl (by rfl) (fun w' hSw => by have g := guardK; go_simp <;> first | exact QE.out w' | (have h := QE.out w'; simp at h; exact h) | (have h := QE.out w'; simp at h ⊢; exact h) | exact q0) ?_
      simp only [List.setIfInBounds_toArray, List.set_cons_zero, List.set_cons_succ]
      refine wpG_val (.bool false) rfl (by rfl) (fun w' hSw => by go_simp) ?_
      simp only [List.setIfInBounds_toArray, List.set_cons_zero, List.set_cons_succ]
      refine wpG_val (.bool false) rfl (by rfl) (fun w' hSw => by go_simp) ?_
      simp only [List.setIfInBounds_toArray, List.set_cons_zero, List.set_cons_succ]
      refine wpG_nil ?_
      intro wS hSw
      have d0 := hSw.cell (p := ⟨w.heap.size, 0, none⟩) k0
      rw [c0] at d0
      have d3 := hSw.cell (p := ⟨w.heap.size, 3, none⟩) k0
      rw [c3] at d3
      have f3 := hSw.cell (p := ⟨w.heap.size + 1, 3, none⟩) k1
      rw [e3] at f3
      go_wp2
      go_ret
      exact ⟨rfl, B5.out.trans (hSw.mono B5.out.size)⟩
    · have n3 : decide ((K : Int) = 3) = false := by rw [decide_eq_false_iff_not]; omega
      clear s4
      go_wp2_with fail
      refine wp_region_G (fun w' => Below w5.heap.size w5 w') (by kernel_rfl) (by kernel_rfl) (Below.refl _ _).drew ?_
      refine wpG_val (.string a) rfl (by rfl) (fun w' hSw => by go_simp) ?_
      simp only [List.setIfInBounds_toArray, List.set_cons_zero, List.set_cons_succ]
      refine wpG_val (.string (a.extract 0 5)) rfl (by rfl) (fun w' hSw => by go_simp; intro hh; exfalso; omega) ?_
      simp only [List.setIfInBounds_toArray, List.set_cons_zero, List.set_cons_succ]
      refine wpG_val (.string b) rfl (by rfl) (fun w' hSw => by go_simp) ?_
      simp only [List.setIfInBounds_toArray, List.set_cons_zero, List.set_cons_succ]
      refine wpG_val (.string (b.extract 0 5)) rfl (by rfl) (fun w' hSw => by go_simp; intro hh; exfalso; omega) ?_
      simp only [List.setIfInBounds_toArray, List.set_cons_zero, List.set_cons_succ]
      refine wpG_val (.bool true) rfl (by rfl) (fun w' hSw => by go_simp) ?_
      simp only [List.setIfInBounds_toArray, List.set_cons_zero, List.set_cons_succ]
      refine wpG_val (.bool true) rfl (by rfl) (fun w' hSw => by go_simp <;> omega) ?_
      simp only [List.setIfInBounds_toArray, List.set_cons_zero, List.set_cons_succ]
      refine wpG_val (.bool false) rfl (by rfl) (fun w' hSw => by go_simp) ?_
      simp only [List.setIfInBounds_toArray, List.set_cons_zero, List.set_cons_succ]
      refine wpG_val (.bool false) rfl (by rfl) (fun w' hSw => by go_simp) ?_
      simp only [List.setIfInBounds_toArray, List.set_cons_zero, List.set_cons_succ]
      refine wpG_val (.string a) rfl (by rfl) (fun w' hSw => by go_simp) ?_
      simp only [List.setIfInBounds_toArray, List.set_cons_zero, List.set_cons_succ]
      refine wpG_val (.string b) rfl (by rfl) (fun w' hSw => by go_simp) ?_
      simp only [List.setIfInBounds_toArray, List.set_cons_zero, List.set_cons_succ]
      refine wpG_val (.bool q) rfl (by rfl) (fun w' hSw => by go_simp) ?_
      simp only [List.setIfInBounds_toArray, List.set_cons_zero, List.set_cons_succ]
      refine wpG_val (.agg #[.int .u8 K, .int .u32 I, .string N, .int .u32 C]) rfl (by rfl) (fun w' hSw => by have r := (hSw.block _ k0).trans r0; exact row_run 47 rfl w.heap.size rfl _ _ (0, 0) _ r Try.underlying47 rfl (by kernel_rfl)) ?_
      simp only [List.setIfInBounds_toArray, List.set_cons_zero, List.set_cons_succ]
      refine wpG_val (.agg #[.int .u8 K, .int .u32 I, .string N2, .int .u32 C2]) rfl (by rfl) (fun w' hSw => by have r := (hSw.block _ k1).trans r1; exact row_run 47 rfl (w.heap.size + 1) rfl _ _ (0, 0) _ r Try.underlying47 rfl (by kernel_rfl)) ?_
      simp only [List.setIfInBounds_toArray, List.set_cons_zero, List.set_cons_succ]
      refine wpG_val (.bool q) rfl (by rfl) (fun w' hSw => by have g := guardK; go_simp <;> first | exact QE.out w' | (have h := QE.out w'; simp at h; exact h) | (have h := QE.out w'; simp at h ⊢; exact h) | exact q0) ?_
      simp only [List.setIfInBounds_toArray, List.set_cons_zero, List.set_cons_succ]
      refine wpG_val (.bool false) rfl (by rfl) (fun w' hSw => by go_simp) ?_
      simp only [List.setIfInBounds_toArray, List.set_cons_zero, List.set_cons_succ]
      refine wpG_val (.bool false) rfl (by rfl) (fun w' hSw => by go_simp) ?_
      simp only [List.setIfInBounds_toArray, List.set_cons_zero, List.set_cons_succ]
      refine wpG_nil ?_
      intro wS hSw
      have d0 := hSw.cell (p := ⟨w.heap.size, 0, none⟩) k0
      rw [c0] at d0
      go_wp2
      go_ret
      exact ⟨rfl, B5.out.trans (hSw.mono B5.out.size)⟩
  · by_cases hk : K = K2
    · have hi := s1 hk
      subst hk
      have n1 : decide ((I : Int) = (I2 : Int)) = false := by rw [decide_eq_false_iff_not]; omega
      clear s1
      go_wp2_with fail
      refine wp_region_G (fun w' => Below w5.heap.size w5 w') (by kernel_rfl) (by kernel_rfl) (Below.refl _ _).drew ?_
      refine wpG_val (.string a) rfl (by rfl) (fun w' hSw => by go_simp) ?_
      simp only [List.setIfInBounds_toArray, List.set_cons_zero, List.set_cons_succ]
      refine wpG_val (.string (a.extract 0 5)) rfl (by rfl) (fun w' hSw => by go_simp; intro hh; exfalso; omega) ?_
      simp only [List.setIfInBounds_toArray, List.set_cons_zero, List.set_cons_succ]
      refine wpG_val (.string b) rfl (by rfl) (fun w' hSw => by go_simp) ?_
      simp only [List.setIfInBounds_toArray, List.set_cons_zero, List.set_cons_succ]
      refine wpG_val (.string (b.extract 0 5)) rfl (by rfl) (fun w' hSw => by go_simp; intro hh; exfalso; omega) ?_
      simp only [List.setIfInBounds_toArray, List.set_cons_zero, List.set_cons_succ]
      refine wpG_val (.bool false) rfl (by rfl) (fun w' hSw => by go_simp) ?_
      simp only [List.setIfInBounds_toArray, List.set_cons_zero, List.set_cons_succ]
      refine wpG_val (.bool false) rfl (by rfl) (fun w' hSw => by go_simp <;> omega) ?_
      simp only [List.setIfInBounds_toArray, List.set_cons_zero, List.set_cons_succ]
      refine wpG_val (.bool false) rfl (by rfl) (fun w' hSw => by go_simp) ?_
      simp only [List.setIfInBounds_toArray, List.set_cons_zero, List.set_cons_succ]
      refine wpG_val (.bool false) rfl (by rfl) (fun w' hSw => by go_simp) ?_
      simp only [List.setIfInBounds_toArray, List.set_cons_zero, List.set_cons_succ]
      refine wpG_val (.string a) rfl (by rfl) (fun w' hSw => by go_simp) ?_
      simp only [List.setIfInBounds_toArray, List.set_cons_zero, List.set_cons_succ]
      refine wpG_val (.string b) rfl (by rfl) (fun w' hSw => by go_simp) ?_
      simp only [List.setIfInBounds_toArray, List.set_cons_zero, List.set_cons_succ]
      refine wpG_val (.bool q) rfl (by rfl) (fun w' hSw => by go_simp) ?_
      simp only [List.setIfInBounds_toArray, List.set_cons_zero, List.set_cons_succ]
      refine wpG_val (.agg #[.int .u8 K, .int .u32 I, .string N, .int .u32 C]) rfl (by rfl) (fun w' hSw => by have r := (hSw.block _ k0).trans r0; exact row_run 47 rfl w.heap.size rfl _ _ (0, 0) _ r Try.underlying47 rfl (by kernel_rfl)) ?_
      simp only [List.setIfInBounds_toArray, List.set_cons_zero, List.set_cons_succ]
      refine wpG_val (.agg #[.int .u8 K, .int .u32 I2, .string N2, .int .u32 C2]) rfl (by rfl) (fun w' hSw => by have r := (hSw.block _ k1).trans r1; exact row_run 47 rfl (w.heap.size + 1) rfl _ _ (0, 0) _ r Try.underlying47 rfl (by kernel_rfl)) ?_
      simp only [List.setIfInBounds_toArray, List.set_cons_zero, List.set_cons_succ]
      refine wpG_val (.bool q) rfl (by rfl) (fun w' hSw => by have g := guardK; go_simp <;> first | exact QE.out w' | (have h := QE.out w'; simp at h; exact h) | (have h := QE.out w'; simp at h ⊢; exact h) | exact q0) ?_
      simp only [List.setIfInBounds_toArray, List.set_cons_zero, List.set_cons_succ]
      refine wpG_val (.bool false) rfl (by rfl) (fun w' hSw => by go_simp) ?_
      simp only [List.setIfInBounds_toArray, List.set_cons_zero, List.set_cons_succ]
      refine wpG_val (.bool false) rfl (by rfl) (fun w' hSw => by go_simp) ?_
      simp only [List.setIfInBounds_toArray, List.set_cons_zero, List.set_cons_succ]
      refine wpG_nil ?_
      intro wS hSw
      go_wp2
      go_ret
      exact ⟨rfl, B5.out.trans (hSw.mono B5.out.size)⟩
    · have n1 : decide ((K : Int) = (K2 : Int)) = false := by rw [decide_eq_false_iff_not]; omega
      have q0 : q = false := by
        have h := QE.out w
        rw [if_neg (by omega)] at h
        simpa using h.symm
      clear s1
      go_wp2_with fail
      refine wp_region_G (fun w' => Below w5.heap.size w5 w') (by kernel_rfl) (by kernel_rfl) (Below.refl _ _).drew ?_
      refine wpG_val (.string a) rfl (by rfl) (fun w' hSw => by go_simp) ?_
      simp only [List.setIfInBounds_toArray, List.set_cons_zero, List.set_cons_succ]
      refine wpG_val (.string (a.extract 0 5)) rfl (by rfl) (fun w' hSw => by go_simp; intro hh; exfalso; omega) ?_
      simp only [List.setIfInBounds_toArray, List.set_cons_zero, List.set_cons_succ]
      refine wpG_val (.string b) rfl (by rfl) (fun w' hSw => by go_simp) ?_
      simp only [List.setIfInBounds_toArray, List.set_cons_zero, List.set_cons_succ]
      refine wpG_val (.string (b.extract 0 5)) rfl (by rfl) (fun w' hSw => by go_simp; intro hh; exfalso; omega) ?_
      simp only [List.setIfInBounds_toArray, List.set_cons_zero, List.set_cons_succ]
      refine wpG_val (.bool false) rfl (by rfl) (fun w' hSw => by go_simp) ?_
      simp only [List.setIfInBounds_toArray, List.set_cons_zero, List.set_cons_succ]
      refine wpG_val (.bool false) rfl (by rfl) (fun w' hSw => by go_simp <;> omega) ?_
      simp only [List.setIfInBounds_toArray, List.set_cons_zero, List.set_cons_succ]
      refine wpG_val (.bool false) rfl (by rfl) (fun w' hSw => by go_simp) ?_
      simp only [List.setIfInBounds_toArray, List.set_cons_zero, List.set_cons_succ]
      refine wpG_val (.bool false) rfl (by rfl) (fun w' hSw => by go_simp) ?_
      simp only [List.setIfInBounds_toArray, List.set_cons_zero, List.set_cons_succ]
      refine wpG_val (.string a) rfl (by rfl) (fun w' hSw => by go_simp) ?_
      simp only [List.setIfInBounds_toArray, List.set_cons_zero, List.set_cons_succ]
      refine wpG_val (.string b) rfl (by rfl) (fun w' hSw => by go_simp) ?_
      simp only [List.setIfInBounds_toArray, List.set_cons_zero, List.set_cons_succ]
      refine wpG_val (.bool q) rfl (by rfl) (fun w' hSw => by go_simp) ?_
      simp only [List.setIfInBounds_toArray, List.set_cons_zero, List.set_cons_succ]
      refine wpG_val (.agg #[.int .u8 K, .int .u32 I, .string N, .int .u32 C]) rfl (by rfl) (fun w' hSw => by have r := (hSw.block _ k0).trans r0; exact row_run 47 rfl w.heap.size rfl _ _ (0, 0) _ r Try.underlying47 rfl (by kernel_rfl)) ?_
      simp only [List.setIfInBounds_toArray, List.set_cons_zero, List.set_cons_succ]
      refine wpG_val (.agg #[.int .u8 K2, .int .u32 I2, .string N2, .int .u32 C2]) rfl (by rfl) (fun w' hSw => by have r := (hSw.block _ k1).trans r1; exact row_run 47 rfl (w.heap.size + 1) rfl _ _ (0, 0) _ r Try.underlying47 rfl (by kernel_rfl)) ?_
      simp only [List.setIfInBounds_toArray, List.set_cons_zero, List.set_cons_succ]
      refine wpG_val (.bool q) rfl (by rfl) (fun w' hSw => by have g := guardK; go_simp <;> first | exact QE.out w' | (have h := QE.out w'; simp at h; exact h) | (have h := QE.out w'; simp at h ⊢; exact h) | exact q0) ?_
      simp only [List.setIfInBounds_toArray, List.set_cons_zero, List.set_cons_succ]
      refine wpG_val (.bool false) rfl (by rfl) (fun w' hSw => by go_simp) ?_
      simp only [List.setIfInBounds_toArray, List.set_cons_zero, List.set_cons_succ]
      refine wpG_val (.bool false) rfl (by rfl) (fun w' hSw => by go_simp) ?_
      simp only [List.setIfInBounds_toArray, List.set_cons_zero, List.set_cons_succ]
      refine wpG_nil ?_
      intro wS hSw
      go_wp2
      go_ret
      exact ⟨rfl, B5.out.trans (hSw.mono B5.out.size)⟩
end Go.Proofs.Ytkmbophbjgfacaa.Ino
