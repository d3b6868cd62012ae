/- Contract of package dev's Spoil. -/
import Derived.Test.YtjkapmghifglcaaDoorDvW
namespace Go.Proofs.YtjkapmghifglcaaDoor.Dv
set_option linter.unusedVariables false
set_option linter.unusedSimpArgs false
open Go.ChangeShapes Go.WideShapes Go.ChangeAt Go.RowKit
open Ar Rg St
open BigFrame
set_option maxRecDepth 100000 in
set_option maxHeartbeats 4000000 in
theorem spoil_any (x : De) (num : Nat) (s : ByteArray) (v : Value) (w : World) (hs63 : s.size ≤ 9223372036854775807) (hv : DevAt w v x) :
    Calls Tryd.prog 26 #[v, .int .u32 num, .string s] w fun e w' => ∃ v', e = .returned (.tuple #[v', .int .i64 (spO x num s)]) ∧ DevAt w' v' (spX x num s) ∧ Below w.heap.size w w' := by
  obtain ⟨A, n, c, A', m, c', rfl, hD, hW, hn, hm, f1, f2⟩ := hv
  obtain ⟨N, D, W, dn, fu⟩ := x
  dsimp only at hD hW f1 f2 ⊢
  obtain ⟨R1, R2, S0, Z0⟩ := two_new w (devC N (.slice A n c) (.slice A' m c') dn fu) zAt 25 25
  have HR1 := Lib.hid R1
  have HR2 := Lib.hid R2
  have HZ := Lib.hid Z0
  have HD := Lib.hid (hD.below S0)
  have HW := Lib.hid (hW.below S0)
  have HS := Lib.hid S0
  have hD0 := hD.1
  have hW0 := hW.1
  clear hD hW S0 R1 R2 Z0
  unfold devV
  cases hr : De.rt ⟨N, D, W, dn, fu⟩
  · have HE := Lib.hid (show spO ⟨N, D, W, dn, fu⟩ num s = 7 by unfold spO; rw [hr]; rfl)
    have HX := Lib.hid (show spX ⟨N, D, W, dn, fu⟩ num s = De.zero by unfold spX; rw [hr]; rfl)
    have HR := Lib.hid (show rtD N D W = false from hr)
    rw [HE.out, HX.out]
    clear hr hD0 hW0 HE HX
    go_enter Tryd.func26, Tryd.ntmps26
    go_wp2_with fail
    generalize (w.alloc _).alloc _ = W0 at *
    go_at_call 33
    refine (right_any N D W A A' n c m c' dn fu hn hm W0 HD.out HW.out).mono ?_
    rw [HR.out]
    rintro e w1 ⟨rfl, hb1⟩
    have HB := Lib.hid (HS.out.trans (hb1.mono HS.out.size))
    have HQ2 := Lib.hid (below_row HR2.out hb1 (by rw [HZ.out]; omega))
    clear hb1
    go_wp2_with (refine wpList_store_row rfl 25 (.tmp 6) (.tmp 13) rfl (w.heap.size + 1) #[.int .u32 0, .slice none 0 0, .slice none 0 0, .bool false, .int .i64 0] rfl rfl 25 zAt HQ2.out (by kernel_rfl) rfl (dev_one _ _ _ _ _ _ _ _ _) ?_)
    have hg2 := setRow_heap' (cs := #[.int .u32 0, .slice none 0 0, .slice none 0 0, .bool false, .int .i64 0]) HQ2.out
    refine bodyPost_ret (v := .tuple #[.agg #[.int .u32 0, .slice none 0 0, .slice none 0 0, .bool false, .int .i64 0], .int .i64 7]) (results_row2 rfl _ _ (w.heap.size + 1) 25 #[.int .u32 0, .slice none 0 0, .slice none 0 0, .bool false, .int .i64 0] (0, 0) _ rfl hg2 Tryd.underlying25 rfl (by kernel_rfl) _ rfl) rfl ?_
    exact ⟨_, rfl, DevAt.zero _, below_setRow HB.out (by omega) _⟩
  · have HR := Lib.hid (show rtD N D W = true from hr)
    have hlen := rt_len hr
    dsimp only at hlen
    have hnl : n ≤ 65536 := by omega
    have hml : m ≤ 16384 := by omega
    have HDL := Lib.hid (show D.length ≤ 65536 from hlen.1)
    have HWL := Lib.hid (show W.length ≤ 16384 from hlen.2)
    have HUP := Lib.hid (show UpK key D from (rt_parts hr).2.2.1)
    have HMW := Lib.hid hW0
    clear hlen hD0
    by_cases hy : hadE N num s = 0
    · have HY := Lib.hid hy
      have HE := Lib.hid (show spO ⟨N, D, W, dn, fu⟩ num s = 0 by unfold spO; rw [hr, if_pos rfl]; exact hy)
      have HX := Lib.hid (show spX ⟨N, D, W, dn, fu⟩ num s = ⟨N, app D [⟨num, cutB s⟩], W, dn, fu⟩ by unfold spX; rw [hr, if_pos rfl, if_neg (by simpa using hy)]; rfl)
      rw [HE.out, HX.out]
      have HAL := Lib.hid (show (app D [⟨num, cutB s⟩]).length ≤ 281474976710656 by have h1 := app_len D [⟨num, cutB s⟩]; have := HDL.out; simp only [List.length_singleton] at h1; omega)
      clear hr HE HX hy hW0
      go_enter Tryd.func26, Tryd.ntmps26
      go_wp2_with fail
      generalize (w.alloc _).alloc _ = W0 at *
      go_at_call 33
      refine (right_any N D W A A' n c m c' dn fu hn hm W0 HD.out HW.out).mono ?_
      rw [HR.out]
      rintro e w1 ⟨rfl, hb1⟩
      have HB := Lib.hid (HS.out.trans (hb1.mono HS.out.size))
      have HQ2 := Lib.hid (below_row HR2.out hb1 (by rw [HZ.out]; omega))
      have BX := Lib.hid (row_dev (below_row HR1.out hb1 (by rw [HZ.out]; omega)))
      have HD1 := Lib.hid (HD.out.below hb1)
      have HW1 := Lib.hid (HW.out.below hb1)
      have z1 : w.heap.size + 2 ≤ w1.heap.size := by have := hb1.size; rw [HZ.out] at this; exact this
      have a0 := BX.out.c0
      have a1 := BX.out.c1
      have a2 := BX.out.c2
      have a3 := BX.out.c3
      have a4 := BX.out.c4
      clear hb1 HD HW HR1 HR2
      go_wp2_with fail
      go_at_call 34
      refine (takenUp_any N D W A A' n c m c' dn fu (by omega) (by omega) w1 HD1.out HW1.out).mono ?_
      rintro e w2 ⟨v1, v2, rfl, hT, hb2⟩
      obtain ⟨A1, n1, c1, rfl, hs1⟩ := hT.one.sl
      obtain ⟨A2, n2, c2, rfl, hs2⟩ := hT.two.sl
      have HT := Lib.hid hT
      have HS1 := Lib.hid hs1
      have HS2 := Lib.hid hs2
      have hn1 : n1 ≤ 65536 := by have h1 := hs1.1; have h2 := HD1.out.1; omega
      have hn2 : n2 ≤ 16384 := by have h1 := hs2.1; have h2 := HW1.out.1; omega
      have z2 : w.heap.size + 2 ≤ w2.heap.size := Nat.le_trans z1 hb2.size
      have HB2 := Lib.hid (HB.out.trans (hb2.mono HB.out.size))
      have HQ3 := Lib.hid (below_row HQ2.out hb2 (by omega))
      have RN := Lib.hid (heap_alloc_new w2 (.cells zAt 57))
      have BX3 := Lib.hid (row_dev (setRow_heap' (cs := devC N (.slice A1 n1 c1) (.slice A2 n2 c2) dn fu) RN.out))
      have K3 := Lib.hid (below_setRow ((Below.refl w2.heap.size w2).alloc (Nat.le_refl _) (.cells zAt 57)) (Nat.le_refl w2.heap.size) (devC N (.slice A1 n1 c1) (.slice A2 n2 c2) dn fu))
      have z3 : w2.heap.size < ((w2.alloc (.cells zAt 57)).setRow w2.heap.size (devC N (.slice A1 n1 c1) (.slice A2 n2 c2) dn fu)).heap.size := World.block_lt_of_cell? _ ⟨w2.heap.size, 0, none⟩ BX3.out.c0
      have HT12 := Lib.hid hb2.size
      have HRW := Lib.hid (setRow_heap' (cs := devC N (.slice A1 n1 c1) (.slice A2 n2 c2) dn fu) RN.out)
      clear hs1 hs2 hT hb2 a0 a1 a2 a3 a4 BX HB HQ2 HD1 HW1
      go_wp2_with (first | fail | (refine wpList_store_row rfl 57 (.tmp 8) (.tmp 15) rfl w2.heap.size #[.int .u32 N, .slice A1 n1 c1, .slice A2 n2 c2, .bool dn, .int .i64 fu] rfl rfl 57 zAt RN.out (by kernel_rfl) rfl (dev_one _ _ _ _ _ _ _ _ _) ?_; change wpList _ _ _ _ _ ((w2.alloc (.cells zAt 57)).setRow w2.heap.size (devC N (.slice A1 n1 c1) (.slice A2 n2 c2) dn fu)); generalize (w2.alloc (.cells zAt 57)).setRow w2.heap.size (devC N (.slice A1 n1 c1) (.slice A2 n2 c2) dn fu) = W3 at *; have b0 := BX3.out.c0; have b1 := BX3.out.c1; have b2 := BX3.out.c2; have b3 := BX3.out.c3; have b4 := BX3.out.c4; have HQ9 := Lib.hid (below_row HQ3.out K3.out (by omega))))
      go_wp2_with fail
      go_at_call 43
      refine (had_any N num A1 A2 n1 c1 n2 c2 dn fu s W3).mono ?_
      rw [HY.out]
      rintro e w4 ⟨rfl, hb4⟩
      have BX4 := Lib.hid (BX3.out.below hb4 z3)
      have K4 := Lib.hid (K3.out.trans (hb4.mono (Nat.le_of_lt z3)))
      have O1 := Lib.hid ((HT.out.one.go K3.out).go hb4)
      have O2 := Lib.hid ((HT.out.two.go K3.out).go hb4)
      have RB4 := Lib.hid (below_row HRW.out hb4 z3)
      have L4 := Lib.hid (HS1.out.below K4.out)
      have e2 := BX4.out.c1
      clear hb4 b0 b1 b2 b3 b4
      go_wp2_with fail
      have HC := Lib.hid (cut_any s hs63)
      have z4 : w2.heap.size < w4.heap.size := World.block_lt_of_cell? _ ⟨w2.heap.size, 0, none⟩ BX4.out.c0
      have hdr : Below w4.heap.size w4 w4.drew := (Below.refl _ _).drew
      have hal : Below w4.drew.heap.size w4.drew (w4.drew.alloc (.cells #[.int .u32 num, .string (cutB s)] 41)) := (Below.refl _ _).alloc (Nat.le_refl _) _
      have e2a : (w4.drew.alloc (.cells #[.int .u32 num, .string (cutB s)] 41)).cell? ⟨w2.heap.size, 1, none⟩ = some (.slice A1 n1 c1) := (hal.cell (p := ⟨w2.heap.size, 1, none⟩) z4).trans e2
      have BX5a := Lib.hid ((BX4.out.below hdr z4).below hal z4)
      have P2a := Lib.hid ((O2.out.go hdr).go hal)
      have L5 := Lib.hid ((L4.out.below hdr).below hal)
      have K5 := Lib.hid ((K4.out.trans (hdr.mono (Nat.le_of_lt z4))).trans (hal.mono (Nat.le_of_lt z4)))
      have HLn := Lib.hid (Ls.new (enc := enc) (k := 2) w4.drew (⟨num, cutB s⟩ : Bk) 41 (w4.drew.heap.size + 1) (Nat.lt_succ_self _))
      have z5a := Lib.hid (Nat.lt_of_lt_of_le z4 (Nat.le_trans hdr.size hal.size))
      have Z5 := Lib.hid (show w4.drew.heap.size + 1 ≤ (w4.drew.alloc (.cells #[.int .u32 num, .string (cutB s)] 41)).heap.size by simp)
      have hne2 := Lib.hid (show ∀ k, (Value.slice A2 n2 c2).ownBlock = some k → k < w2.heap.size from fun k hk => (HT.out.two.lt k hk).2)
      have H12 := Lib.hid HT12.out
      clear hal hdr
      refine wp_region_held_drew (S := fun _ => True) (by kernel_rfl) trivial (fun hHeld => ?_)
      refine take_at 0 25 (.pointer (some ⟨w2.heap.size, 0, none⟩)) rfl (by rfl) (by kernel_rfl) (by kernel_rfl) (by kernel_rfl) (fun _ _ _ h => h) (Or.inl ⟨by rfl, fun w' hSw => by go_simp⟩) (by assumption) ?_
      simp only [List.setIfInBounds_toArray, List.set_cons_zero, List.set_cons_succ]
      refine take_at 1 26 (.pointer (some ⟨w2.heap.size, 1, none⟩)) rfl (by rfl) (by kernel_rfl) (by kernel_rfl) (by kernel_rfl) (fun _ _ _ h => h) (Or.inl ⟨by rfl, fun w' hSw => by go_simp⟩) (by assumption) ?_
      simp only [List.setIfInBounds_toArray, List.set_cons_zero, List.set_cons_succ]
      refine take_at 3 28 (.int .u32 num) rfl (by rfl) (by kernel_rfl) (by kernel_rfl) (by kernel_rfl) (fun _ _ _ h => h) (Or.inl ⟨by rfl, fun w' hSw => by go_simp⟩) (by assumption) ?_
      simp only [List.setIfInBounds_toArray, List.set_cons_zero, List.set_cons_succ]
      refine take_at 4 29 (.string s) rfl (by rfl) (by kernel_rfl) (by kernel_rfl) (by kernel_rfl) (fun _ _ _ h => h) (Or.inl ⟨by rfl, fun w' hSw => by go_simp⟩) (by assumption) ?_
      simp only [List.setIfInBounds_toArray, List.set_cons_zero, List.set_cons_succ]
      refine wpAnyH_ready (rs := [2, 5]) (by kernel_rfl) (by simp) ?_
      refine all_at 2 27 (.slice A1 n1 c1) w4.drew rfl (by rfl) (by rfl) (by go_simp) trivial (fun hHeld => ?_) (AllReadyH.cons rfl (fun K hK => ?_) AllReadyH.nil)
      simp only [List.setIfInBounds_toArray, List.set_cons_zero, List.set_cons_succ]
      refine wpAnyH_ready (rs := [5]) (by kernel_rfl) (by simp) ?_
      refine AllReadyH.cons rfl (fun K hK => ?_) AllReadyH.nil
      go_simp
      go_wp2_with (go_at_call 45; refine (HC.out _).mono ?_; rintro e w' ⟨rfl, rfl⟩)
      refine hK.out _ _ trivial (fun hHeld => ?_)
      clear hK K
      refine take_at 6 31 (.agg #[.int .u32 num, .string (cutB s)]) rfl (by rfl) (by kernel_rfl) (by kernel_rfl) (by kernel_rfl) (fun _ _ _ h => h) (Or.inl ⟨by rfl, fun w' hSw => by go_simp⟩) (by assumption) ?_
      simp only [List.setIfInBounds_toArray, List.set_cons_zero, List.set_cons_succ]
      refine wpAnyH_ready (rs := [7]) (by kernel_rfl) (by simp) ?_
      refine AllReadyH.cons rfl (fun K hK => ?_) AllReadyH.nil
      go_simp
      refine hK.out _ _ trivial (fun hHeld => ?_)
      clear hK K
      rotate_left
      go_simp
      go_wp2_with (go_at_call 45; refine (HC.out _).mono ?_; rintro e w' ⟨rfl, rfl⟩)
      refine hK.out _ _ trivial (fun hHeld => ?_)
      clear hK K
      refine take_at 6 31 (.agg #[.int .u32 num, .string (cutB s)]) rfl (by rfl) (by kernel_rfl) (by kernel_rfl) (by kernel_rfl) (fun _ _ _ h => h) (Or.inl ⟨by rfl, fun w' hSw => by go_simp⟩) (by assumption) ?_
      simp only [List.setIfInBounds_toArray, List.set_cons_zero, List.set_cons_succ]
      refine wpAnyH_ready (rs := [2, 7]) (by kernel_rfl) (by simp) ?_
      refine all_at 2 27 (.slice A1 n1 c1) w4.drew rfl (by rfl) (by rfl) (by go_simp) trivial (fun hHeld => ?_) (AllReadyH.cons rfl (fun K hK => ?_) AllReadyH.nil)
      simp only [List.setIfInBounds_toArray, List.set_cons_zero, List.set_cons_succ]
      refine wpAnyH_ready (rs := [7]) (by kernel_rfl) (by simp) ?_
      refine AllReadyH.cons rfl (fun K hK => ?_) AllReadyH.nil
      go_simp
      refine hK.out _ _ trivial (fun hHeld => ?_)
      clear hK K
      rotate_left
      go_simp
      refine hK.out _ _ trivial (fun hHeld => ?_)
      clear hK K
      refine wpAnyH_ready (rs := [2]) (by kernel_rfl) (by simp) ?_
      refine all_at 2 27 (.slice A1 n1 c1) (w4.drew.alloc (.cells #[.int .u32 num, .string (cutB s)] 41)) rfl (by rfl) (by rfl) (by go_simp) trivial (fun hHeld => ?_) all_nil
      simp only [List.setIfInBounds_toArray, List.set_cons_zero, List.set_cons_succ]
      all_goals
        refine wpAnyH_ready (rs := [8]) (by kernel_rfl) (by simp) ?_
        refine AllReadyH.cons rfl (fun K hK => ?_) AllReadyH.nil
        rw [if_pos (by rfl)]
        go_simp
        obtain ⟨m1, m2, m3, B1, m4, m5⟩ := L5.out
        have HLD := Lib.hid (laid_any D [⟨num, cutB s⟩] A1 (some ⟨w4.drew.heap.size, 0, none⟩) n1 c1 1 1 B1 (w4.drew.heap.size + 1) m1 m2 m3 rfl (by omega) (by omega) HUP.out (UpK.one _) _ m4 Z5.out m5 HLn.out)
        clear m1 m2 m3 m4 m5
        generalize hq : World.drew (w4.alloc _) = wq
        obtain rfl : w4.drew.alloc (.cells #[.int .u32 num, .string (cutB s)] 41) = wq := hq
        generalize w4.drew.alloc (.cells #[.int .u32 num, .string (cutB s)] 41) = w5 at *
        go_wp2_with (go_at_call 44; refine HLD.out.mono ?_; rintro e w6 ⟨v6, rfl, hM6⟩)
        obtain ⟨A6, n6, c6, rfl, hs6⟩ := SlB.of_mk hM6
        have BX6 := Lib.hid (BX5a.out.below hM6.2 z5a.out)
        have O6 := Lib.hid (Own.of_mk hM6)
        have K6 := Lib.hid (K5.out.trans (hM6.2.mono (Nat.le_of_lt z5a.out)))
        have Q2 := Lib.hid (P2a.out.go hM6.2)
        clear hM6 hs6
        refine hK.out _ _ trivial (fun hHeld => ?_)
        clear hK K
        refine take_at 9 34 (.pointer (some ⟨w2.heap.size, 0, none⟩)) rfl (by rfl) (by kernel_rfl) (by kernel_rfl) (by kernel_rfl) (fun _ _ _ h => h) (Or.inl ⟨by rfl, fun w' hSw => by go_simp⟩) (by assumption) ?_
        simp only [List.setIfInBounds_toArray, List.set_cons_zero, List.set_cons_succ]
        refine take_at 10 35 (.pointer (some ⟨w2.heap.size, 1, none⟩)) rfl (by rfl) (by kernel_rfl) (by kernel_rfl) (by kernel_rfl) (fun _ _ _ h => h) (Or.inl ⟨by rfl, fun w' hSw => by go_simp⟩) (by assumption) ?_
        simp only [List.setIfInBounds_toArray, List.set_cons_zero, List.set_cons_succ]
        have d2 := BX6.out.c1
        have g2 := BX6.out.fr 1
        refine wpAnyH_ready (rs := [11]) (by kernel_rfl) (by simp) ?_
        refine AllReadyH.cons rfl (fun K hK => ?_) AllReadyH.nil
        go_simp
        refine hK.out _ _ trivial (fun hHeld => ?_)
        clear hK K
        refine wpAnyH_done (by kernel_rfl) ?_ _
        have BX7 := Lib.hid (BX6.out.set1 (.slice A6 n6 c6))
        have O7 := Lib.hid (O6.out.far (p := ⟨w2.heap.size, 1, none⟩) z5a.out (.slice A6 n6 c6))
        have Q7 := Lib.hid (Q2.out.grown (grown_setCell w6 ⟨w2.heap.size, 1, none⟩ (.slice A6 n6 c6)) (fun k hk e => by cases e; exact Nat.lt_irrefl _ (hne2.out _ hk)))
        have K7 := Lib.hid (K6.out.setCell (p := ⟨w2.heap.size, 1, none⟩) (Nat.le_refl _) (.slice A6 n6 c6))
        clear d2 g2 BX6 Q2 O6 K6
        generalize w6.setCell _ _ = w7 at *
        have HQ9 := Lib.hid (below_row HQ3.out K7.out (by omega))
        have e0 := BX7.out.c0
        have e1 := BX7.out.c1
        have e2 := BX7.out.c2
        have e3 := BX7.out.c3
        have e4 := BX7.out.c4
        go_wp2_with (first | (refine wpList_store_row rfl 25 (.tmp 6) (.tmp 37) rfl (w.heap.size + 1) #[.int .u32 N, .slice A6 n6 c6, .slice A2 n2 c2, .bool dn, .int .i64 fu] rfl rfl 25 zAt HQ9.out (by kernel_rfl) rfl (dev_one _ _ _ _ _ _ _ _ _) ?_))
        have hg2 := setRow_heap' (cs := #[.int .u32 N, .slice A6 n6 c6, .slice A2 n2 c2, .bool dn, .int .i64 fu]) HQ9.out
        refine bodyPost_ret (v := .tuple #[.agg #[.int .u32 N, .slice A6 n6 c6, .slice A2 n2 c2, .bool dn, .int .i64 fu], .int .i64 0]) (results_row2 rfl _ _ (w.heap.size + 1) 25 #[.int .u32 N, .slice A6 n6 c6, .slice A2 n2 c2, .bool dn, .int .i64 fu] (0, 0) _ rfl hg2 Tryd.underlying25 rfl (by kernel_rfl) _ rfl) rfl ?_
        have hz5 : w.heap.size + 1 < w5.heap.size := by have := z5a.out; omega
        exact ⟨_, rfl, DevAt.own ((O7.out.farRow hz5 _).down (Nat.le_trans H12.out (Nat.le_of_lt z5a.out))) (Q7.out.farRow (by omega) _) HAL.out (by have := HWL.out; omega) f1 f2, below_setRow (HB2.out.trans (K7.out.mono HB2.out.size)) (by omega) _⟩
    · obtain ⟨y, hy2⟩ : ∃ y, hadE N num s = y := ⟨_, rfl⟩
      rw [hy2] at hy
      have HY := Lib.hid hy2
      have HE := Lib.hid (show spO ⟨N, D, W, dn, fu⟩ num s = y by unfold spO; rw [hr, if_pos rfl]; exact hy2)
      have HX := Lib.hid (show spX ⟨N, D, W, dn, fu⟩ num s = ⟨N, D, W, dn, fu⟩ by unfold spX; rw [hr, if_pos rfl, hy2, if_pos hy])
      rw [HE.out, HX.out]
      clear hr HE HX hW0 hy2
      go_enter Tryd.func26, Tryd.ntmps26
      go_wp2_with fail
      generalize (w.alloc _).alloc _ = W0 at *
      go_at_call 33
      refine (right_any N D W A A' n c m c' dn fu hn hm W0 HD.out HW.out).mono ?_
      rw [HR.out]
      rintro e w1 ⟨rfl, hb1⟩
      have HB := Lib.hid (HS.out.trans (hb1.mono HS.out.size))
      have HQ2 := Lib.hid (below_row HR2.out hb1 (by rw [HZ.out]; omega))
      have BX := Lib.hid (row_dev (below_row HR1.out hb1 (by rw [HZ.out]; omega)))
      have HD1 := Lib.hid (HD.out.below hb1)
      have HW1 := Lib.hid (HW.out.below hb1)
      have z1 : w.heap.size + 2 ≤ w1.heap.size := by have := hb1.size; rw [HZ.out] at this; exact this
      have a0 := BX.out.c0
      have a1 := BX.out.c1
      have a2 := BX.out.c2
      have a3 := BX.out.c3
      have a4 := BX.out.c4
      clear hb1 HD HW HR1 HR2
      go_wp2_with fail
      go_at_call 34
      refine (takenUp_any N D W A A' n c m c' dn fu (by omega) (by omega) w1 HD1.out HW1.out).mono ?_
      rintro e w2 ⟨v1, v2, rfl, hT, hb2⟩
      obtain ⟨A1, n1, c1, rfl, hs1⟩ := hT.one.sl
      obtain ⟨A2, n2, c2, rfl, hs2⟩ := hT.two.sl
      have HT := Lib.hid hT
      have HS1 := Lib.hid hs1
      have HS2 := Lib.hid hs2
      have hn1 : n1 ≤ 65536 := by have h1 := hs1.1; have h2 := HD1.out.1; omega
      have hn2 : n2 ≤ 16384 := by have h1 := hs2.1; have h2 := HW1.out.1; omega
      have z2 : w.heap.size + 2 ≤ w2.heap.size := Nat.le_trans z1 hb2.size
      have HB2 := Lib.hid (HB.out.trans (hb2.mono HB.out.size))
      have HQ3 := Lib.hid (below_row HQ2.out hb2 (by omega))
      have RN := Lib.hid (heap_alloc_new w2 (.cells zAt 57))
      have BX3 := Lib.hid (row_dev (setRow_heap' (cs := devC N (.slice A1 n1 c1) (.slice A2 n2 c2) dn fu) RN.out))
      have K3 := Lib.hid (below_setRow ((Below.refl w2.heap.size w2).alloc (Nat.le_refl _) (.cells zAt 57)) (Nat.le_refl w2.heap.size) (devC N (.slice A1 n1 c1) (.slice A2 n2 c2) dn fu))
      have z3 : w2.heap.size < ((w2.alloc (.cells zAt 57)).setRow w2.heap.size (devC N (.slice A1 n1 c1) (.slice A2 n2 c2) dn fu)).heap.size := World.block_lt_of_cell? _ ⟨w2.heap.size, 0, none⟩ BX3.out.c0
      clear hs1 hs2 hT hb2 a0 a1 a2 a3 a4 BX HB HQ2 HD1 HW1
      go_wp2_with (first | fail | (refine wpList_store_row rfl 57 (.tmp 8) (.tmp 15) rfl w2.heap.size #[.int .u32 N, .slice A1 n1 c1, .slice A2 n2 c2, .bool dn, .int .i64 fu] rfl rfl 57 zAt RN.out (by kernel_rfl) rfl (dev_one _ _ _ _ _ _ _ _ _) ?_; change wpList _ _ _ _ _ ((w2.alloc (.cells zAt 57)).setRow w2.heap.size (devC N (.slice A1 n1 c1) (.slice A2 n2 c2) dn fu)); generalize (w2.alloc (.cells zAt 57)).setRow w2.heap.size (devC N (.slice A1 n1 c1) (.slice A2 n2 c2) dn fu) = W3 at *; have b0 := BX3.out.c0; have b1 := BX3.out.c1; have b2 := BX3.out.c2; have b3 := BX3.out.c3; have b4 := BX3.out.c4; have HQ9 := Lib.hid (below_row HQ3.out K3.out (by omega))))
      go_wp2_with fail
      go_at_call 43
      refine (had_any N num A1 A2 n1 c1 n2 c2 dn fu s W3).mono ?_
      rw [HY.out]
      rintro e w4 ⟨rfl, hb4⟩
      have BX4 := Lib.hid (BX3.out.below hb4 z3)
      have K4 := Lib.hid (K3.out.trans (hb4.mono (Nat.le_of_lt z3)))
      have O1 := Lib.hid ((HT.out.one.go K3.out).go hb4)
      have O2 := Lib.hid ((HT.out.two.go K3.out).go hb4)
      have HQ9 := Lib.hid (below_row HQ3.out K4.out (by omega))
      have e0 := BX4.out.c0
      have e1 := BX4.out.c1
      have e2 := BX4.out.c2
      have e3 := BX4.out.c3
      have e4 := BX4.out.c4
      clear hb4 b0 b1 b2 b3 b4
      go_wp2_with (first | (refine wpList_store_row rfl 25 (.tmp 6) (.tmp 23) rfl (w.heap.size + 1) #[.int .u32 N, .slice A1 n1 c1, .slice A2 n2 c2, .bool dn, .int .i64 fu] rfl rfl 25 zAt HQ9.out (by kernel_rfl) rfl (dev_one _ _ _ _ _ _ _ _ _) ?_))
      have hg2 := setRow_heap' (cs := #[.int .u32 N, .slice A1 n1 c1, .slice A2 n2 c2, .bool dn, .int .i64 fu]) HQ9.out
      refine bodyPost_ret (v := .tuple #[.agg #[.int .u32 N, .slice A1 n1 c1, .slice A2 n2 c2, .bool dn, .int .i64 fu], .int .i64 y]) (results_row2 rfl _ _ (w.heap.size + 1) 25 #[.int .u32 N, .slice A1 n1 c1, .slice A2 n2 c2, .bool dn, .int .i64 fu] (0, 0) _ rfl hg2 Tryd.underlying25 rfl (by kernel_rfl) _ rfl) rfl ?_
      exact ⟨_, rfl, DevAt.own (O1.out.farRow (by omega) _) (O2.out.farRow (by omega) _) (by have := HDL.out; omega) (by have := HWL.out; omega) f1 f2, below_setRow (HB2.out.trans (K4.out.mono HB2.out.size)) (by omega) _⟩
end Go.Proofs.YtjkapmghifglcaaDoor.Dv
