/- Contracts of package dev's Read and Crash. -/
import Derived.Test.YtjkapmghifglcaaDoorDvU
namespace Go.Proofs.YtjkapmghifglcaaDoor.Dv
set_option linter.unusedVariables false
open Go.ChangeShapes Go.WideShapes Go.ChangeAt Go.RowKit
open Ar Rg St
open BigFrame
set_option maxRecDepth 100000 in
set_option maxHeartbeats 2000000 in
theorem devRead_any (x : De) (num : Nat) (v : Value) (w : World) (hv : DevAt w v x) :
    Calls Tryd.prog 18 #[v, .int .u32 num] w fun e w' => e = .returned (.tuple #[.string (rdX x num), .int .i64 (rdO x num)]) ∧ Below w.heap.size w w' := by
  obtain ⟨A, n, c, A', m, c', rfl, hD, hW, hn, hm, f1, f2⟩ := hv
  obtain ⟨N, D, W, dn, fu⟩ := x
  dsimp only at hD hW f1 f2 ⊢
  have R1 := heap_alloc_new w (.cells (devC N (.slice A n c) (.slice A' m c') dn fu) 25)
  have S0 : Below w.heap.size w (w.alloc (.cells (devC N (.slice A n c) (.slice A' m c') dn fu) 25)) := (Below.refl _ _).alloc (Nat.le_refl _) _
  have Z0 : (w.alloc (.cells (devC N (.slice A n c) (.slice A' m c') dn fu) 25)).heap.size = w.heap.size + 1 := by simp
  have HR1 := Lib.hid R1
  have HZ := Lib.hid Z0
  have HD := Lib.hid (hD.below S0)
  have HW := Lib.hid (hW.below S0)
  have HS := Lib.hid S0
  have hD0 := hD.1
  have hW0 := hW.1
  clear hD hW S0 R1 Z0
  unfold devV
  cases hr : De.rt ⟨N, D, W, dn, fu⟩
  · have HE := Lib.hid (show rdO ⟨N, D, W, dn, fu⟩ num = 7 by unfold rdO; rw [hr]; rfl)
    have HX := Lib.hid (show rdX ⟨N, D, W, dn, fu⟩ num = ByteArray.empty by unfold rdX; rw [HE.out]; rfl)
    have HR := Lib.hid (show rtD N D W = false from hr)
    rw [HE.out, HX.out]
    clear hr hD0 hW0 HE HX
    go_enter Tryd.func18, Tryd.ntmps18
    go_wp2_with fail
    generalize w.alloc _ = W0 at *
    go_at_call 33
    refine (right_any N D W A A' n c m c' dn fu hn hm W0 HD.out HW.out).mono ?_
    rw [HR.out]
    rintro e w1 ⟨rfl, hb1⟩
    have HB := Lib.hid (HS.out.trans (hb1.mono HS.out.size))
    have BX := Lib.hid (row_dev (below_row HR1.out hb1 (by rw [HZ.out]; omega)))
    have HD1 := Lib.hid (HD.out.below hb1)
    have HW1 := Lib.hid (HW.out.below hb1)
    have a0 := BX.out.c0
    have a1 := BX.out.c1
    have a2 := BX.out.c2
    have a3 := BX.out.c3
    have a4 := BX.out.c4
    clear hb1 HD HW HR1
    go_wp2
    go_ret2
    exact ⟨rfl, HB.out⟩
  · have HR := Lib.hid (show rtD N D W = true from hr)
    have hlen := rt_len hr
    dsimp only at hlen
    have hnl : n ≤ 65536 := by omega
    have hml : m ≤ 16384 := by omega
    have HUP := Lib.hid (show UpK key D from (rt_parts hr).2.2.1)
    clear hlen hD0 hW0
    cases dn
    · by_cases hnum : N ≤ num
      · have HE := Lib.hid (show rdO ⟨N, D, W, false, fu⟩ num = 1 by unfold rdO; rw [hr, if_pos rfl, if_neg Bool.false_ne_true]; exact if_pos hnum)
        have HX := Lib.hid (show rdX ⟨N, D, W, false, fu⟩ num = ByteArray.empty by unfold rdX; rw [HE.out]; rfl)
        rw [HE.out, HX.out]
        have q1 : decide ((N : Int) ≤ (num : Int)) = true := decide_eq_true (by omega)
        clear hr HE HX
        go_enter Tryd.func18, Tryd.ntmps18
        go_wp2_with fail
        generalize w.alloc _ = W0 at *
        go_at_call 33
        refine (right_any N D W A A' n c m c' false fu hn hm W0 HD.out HW.out).mono ?_
        rw [HR.out]
        rintro e w1 ⟨rfl, hb1⟩
        have HB := Lib.hid (HS.out.trans (hb1.mono HS.out.size))
        have BX := Lib.hid (row_dev (below_row HR1.out hb1 (by rw [HZ.out]; omega)))
        have HD1 := Lib.hid (HD.out.below hb1)
        have HW1 := Lib.hid (HW.out.below hb1)
        have a0 := BX.out.c0
        have a1 := BX.out.c1
        have a2 := BX.out.c2
        have a3 := BX.out.c3
        have a4 := BX.out.c4
        clear hb1 HD HW HR1
        go_wp2
        go_ret2
        exact ⟨rfl, HB.out⟩
      · have HE := Lib.hid (show rdO ⟨N, D, W, false, fu⟩ num = 0 by unfold rdO; rw [hr, if_pos rfl, if_neg Bool.false_ne_true]; exact if_neg hnum)
        have HX := Lib.hid (show rdX ⟨N, D, W, false, fu⟩ num = (rdW W num).getD ((D.find? fun b => decide (b.n = num)).elim ByteArray.empty (·.d)) by unfold rdX; rw [HE.out]; rfl)
        rw [HE.out, HX.out]
        obtain ⟨s, hs⟩ : ∃ s, (rdW W num).getD ((D.find? fun b => decide (b.n = num)).elim ByteArray.empty (·.d)) = s := ⟨_, rfl⟩
        rw [hs]
        have HSS := Lib.hid hs.symm
        have q1 : decide ((N : Int) ≤ (num : Int)) = false := decide_eq_false (by omega)
        clear hr HE HX hs
        go_enter Tryd.func18, Tryd.ntmps18
        go_wp2_with fail
        generalize w.alloc _ = W0 at *
        go_at_call 33
        refine (right_any N D W A A' n c m c' false fu hn hm W0 HD.out HW.out).mono ?_
        rw [HR.out]
        rintro e w1 ⟨rfl, hb1⟩
        have HB := Lib.hid (HS.out.trans (hb1.mono HS.out.size))
        have BX := Lib.hid (row_dev (below_row HR1.out hb1 (by rw [HZ.out]; omega)))
        have HD1 := Lib.hid (HD.out.below hb1)
        have HW1 := Lib.hid (HW.out.below hb1)
        have a0 := BX.out.c0
        have a1 := BX.out.c1
        have a2 := BX.out.c2
        have a3 := BX.out.c3
        have a4 := BX.out.c4
        clear hb1 HD HW HR1
        go_wp2_with (go_at_call 39; refine (read_any N num D W A A' n c m c' false fu (by omega) (by omega) w1 HD1.out HW1.out HUP.out s HSS.out).mono ?_; rintro e w2 ⟨rfl, hb2⟩; have HB2 := Lib.hid (HB.out.trans (hb2.mono HB.out.size)); clear hb2)
        go_ret2
        exact ⟨rfl, HB2.out⟩
    · have HE := Lib.hid (show rdO ⟨N, D, W, true, fu⟩ num = 17 by unfold rdO; rw [hr]; rfl)
      have HX := Lib.hid (show rdX ⟨N, D, W, true, fu⟩ num = ByteArray.empty by unfold rdX; rw [HE.out]; rfl)
      rw [HE.out, HX.out]
      clear hr HE HX
      go_enter Tryd.func18, Tryd.ntmps18
      go_wp2_with fail
      generalize w.alloc _ = W0 at *
      go_at_call 33
      refine (right_any N D W A A' n c m c' true fu hn hm W0 HD.out HW.out).mono ?_
      rw [HR.out]
      rintro e w1 ⟨rfl, hb1⟩
      have HB := Lib.hid (HS.out.trans (hb1.mono HS.out.size))
      have BX := Lib.hid (row_dev (below_row HR1.out hb1 (by rw [HZ.out]; omega)))
      have HD1 := Lib.hid (HD.out.below hb1)
      have HW1 := Lib.hid (HW.out.below hb1)
      have a0 := BX.out.c0
      have a1 := BX.out.c1
      have a2 := BX.out.c2
      have a3 := BX.out.c3
      have a4 := BX.out.c4
      clear hb1 HD HW HR1
      go_wp2
      go_ret2
      exact ⟨rfl, HB.out⟩
theorem three_new (w : World) (c1 c2 c3 : Array Value) (t1 t2 t3 : TypeId) : (((w.alloc (.cells c1 t1)).alloc (.cells c2 t2)).alloc (.cells c3 t3)).heap[w.heap.size]? = some (.cells c1 t1 (0, 0)) ∧ (((w.alloc (.cells c1 t1)).alloc (.cells c2 t2)).alloc (.cells c3 t3)).heap[w.heap.size + 1]? = some (.cells c2 t2 (0, 0)) ∧
    (((w.alloc (.cells c1 t1)).alloc (.cells c2 t2)).alloc (.cells c3 t3)).heap[w.heap.size + 2]? = some (.cells c3 t3 (0, 0)) ∧ Below w.heap.size w (((w.alloc (.cells c1 t1)).alloc (.cells c2 t2)).alloc (.cells c3 t3)) ∧ (((w.alloc (.cells c1 t1)).alloc (.cells c2 t2)).alloc (.cells c3 t3)).heap.size = w.heap.size + 3 := by
  obtain ⟨h1, h2, h3, h4⟩ := two_new w c1 c2 t1 t2
  have h5 : Below (w.heap.size + 2) ((w.alloc (.cells c1 t1)).alloc (.cells c2 t2)) (((w.alloc (.cells c1 t1)).alloc (.cells c2 t2)).alloc (.cells c3 t3)) := (Below.refl _ _).alloc (by rw [h4]; exact Nat.le_refl _) _
  have h6 := heap_alloc_new ((w.alloc (.cells c1 t1)).alloc (.cells c2 t2)) (.cells c3 t3)
  rw [h4] at h6
  exact ⟨(h5.block _ (by omega)).trans h1, (h5.block _ (by omega)).trans h2, h6, h3.trans (h5.mono (by omega)), by simp⟩
theorem kpt_len (kf : Nat → Bool) (W : List Bk) : ∀ i, (kpt kf W i).length ≤ i
  | 0 => Nat.zero_le _
  | i + 1 => by
    have h := kpt_len kf W i
    have h2 : (W[i]?).toList.length ≤ 1 := by cases W[i]? <;> simp
    rw [kpt, List.length_append]
    split
    · omega
    · simp only [List.length_nil]; omega
/-- a list of booleans, as an argument -/
def SlK (w : World) (A : Option Addr) (n : Nat) (K : List Bool) : Prop := n = K.length ∧ ∀ j (h : j < K.length), ∃ b o, A = some ⟨b, o, none⟩ ∧ b < w.heap.size ∧ w.cell? ⟨b, o + j, none⟩ = some (.bool K[j])
theorem SlK.below {w w' : World} {A : Option Addr} {n : Nat} {K : List Bool} (h : SlK w A n K) (hb : Below w.heap.size w w') : SlK w' A n K :=
  ⟨h.1, fun j hj => by
    obtain ⟨b, o, e, hl, hc⟩ := h.2 j hj
    exact ⟨b, o, e, Nat.lt_of_lt_of_le hl hb.size, (hb.cell (p := ⟨b, o + j, none⟩) hl).trans hc⟩⟩
set_option maxRecDepth 100000 in
set_option maxHeartbeats 4000000 in
theorem crash_any (x : De) (K : List Bool) (AK : Option Addr) (nk ck : Nat) (v : Value) (w : World) (hv : DevAt w v x) (hK : SlK w AK nk K) :
    Calls Tryd.prog 24 #[v, .slice AK nk ck] w fun e w' => ∃ v', e = .returned (.tuple #[v', .int .i64 (chO x)]) ∧ DevAt w' v' (crX x (kp K)) ∧ Below w.heap.size w w' := by
  obtain ⟨A, n, c, A', m, c', rfl, hD, hW, hn, hm, f1, f2⟩ := hv
  obtain ⟨N, D, W, dn, fu⟩ := x
  dsimp only at hD hW f1 f2 ⊢
  obtain ⟨R1, R3, R2, S0, Z0⟩ := three_new w (devC N (.slice A n c) (.slice A' m c') dn fu) #[.slice AK nk ck] zAt 25 37 25
  have HR1 := Lib.hid R1
  have HR2 := Lib.hid R2
  have HR3 := Lib.hid R3
  have HZ := Lib.hid Z0
  have HD := Lib.hid (hD.below S0)
  have HW := Lib.hid (hW.below S0)
  have HK := Lib.hid (hK.below S0)
  have HS := Lib.hid S0
  have hD0 := hD.1
  have hW0 := hW.1
  clear hD hW S0 R1 R2 R3 Z0 hK
  unfold devV
  cases hr : De.rt ⟨N, D, W, dn, fu⟩
  · have HE := Lib.hid (show chO ⟨N, D, W, dn, fu⟩ = 7 by unfold chO; rw [hr]; rfl)
    have HX := Lib.hid (show crX ⟨N, D, W, dn, fu⟩ (kp K) = De.zero by unfold crX; rw [hr]; rfl)
    have HR := Lib.hid (show rtD N D W = false from hr)
    rw [HE.out, HX.out]
    clear hr hD0 hW0 HE HX
    go_enter Tryd.func24, Tryd.ntmps24
    go_wp2_with fail
    generalize ((w.alloc _).alloc _).alloc _ = W0 at *
    go_at_call 33
    refine (right_any N D W A A' n c m c' dn fu hn hm W0 HD.out HW.out).mono ?_
    rw [HR.out]
    rintro e w1 ⟨rfl, hb1⟩
    have HB := Lib.hid (HS.out.trans (hb1.mono HS.out.size))
    have HQ2 := Lib.hid (below_row HR2.out hb1 (by rw [HZ.out]; omega))
    clear hb1
    go_wp2_with (refine wpList_store_row rfl 25 (.tmp 4) (.tmp 10) rfl (w.heap.size + 2) #[.int .u32 0, .slice none 0 0, .slice none 0 0, .bool false, .int .i64 0] rfl rfl 25 zAt HQ2.out (by kernel_rfl) rfl (dev_one _ _ _ _ _ _ _ _ _) ?_)
    have hg2 := setRow_heap' (cs := #[.int .u32 0, .slice none 0 0, .slice none 0 0, .bool false, .int .i64 0]) HQ2.out
    refine bodyPost_ret (v := .tuple #[.agg #[.int .u32 0, .slice none 0 0, .slice none 0 0, .bool false, .int .i64 0], .int .i64 7]) (results_row2 rfl _ _ (w.heap.size + 2) 25 #[.int .u32 0, .slice none 0 0, .slice none 0 0, .bool false, .int .i64 0] (0, 0) _ rfl hg2 Tryd.underlying25 rfl (by kernel_rfl) _ rfl) rfl ?_
    exact ⟨_, rfl, DevAt.zero _, below_setRow HB.out (by omega) _⟩
  · have HR := Lib.hid (show rtD N D W = true from hr)
    have hlen := rt_len hr
    dsimp only at hlen
    have hnl : n ≤ 65536 := by omega
    have hml : m ≤ 16384 := by omega
    have HDL := Lib.hid (show D.length ≤ 65536 from hlen.1)
    have HUP := Lib.hid (show UpK key D from (rt_parts hr).2.2.1)
    have HWL := Lib.hid hW0
    clear hlen hD0 hW0
    have HE := Lib.hid (show chO ⟨N, D, W, dn, fu⟩ = 0 by unfold chO; rw [hr]; rfl)
    have HX := Lib.hid (show crX ⟨N, D, W, dn, fu⟩ (kp K) = ⟨N, app D (kpt (kp K) W W.length), [], false, -1⟩ by unfold crX; rw [hr]; rfl)
    rw [HE.out, HX.out]
    have HAL := Lib.hid (show (app D (kpt (kp K) W W.length)).length ≤ 281474976710656 by have h1 := app_len D (kpt (kp K) W W.length); have h2 := kpt_len (kp K) W W.length; have := HWL.out; have := HDL.out; omega)
    clear hr HE HX
    go_enter Tryd.func24, Tryd.ntmps24
    go_wp2_with fail
    generalize ((w.alloc _).alloc _).alloc _ = W0 at *
    go_at_call 33
    refine (right_any N D W A A' n c m c' dn fu hn hm W0 HD.out HW.out).mono ?_
    rw [HR.out]
    rintro e w1 ⟨rfl, hb1⟩
    have HB := Lib.hid (HS.out.trans (hb1.mono HS.out.size))
    have HQ2 := Lib.hid (below_row HR2.out hb1 (by rw [HZ.out]; omega))
    have BX := Lib.hid (row_dev (below_row HR1.out hb1 (by rw [HZ.out]; omega)))
    have HD1 := Lib.hid (HD.out.below hb1)
    have HW1 := Lib.hid (HW.out.below hb1)
    have z1 : w.heap.size + 3 ≤ w1.heap.size := by have := hb1.size; rw [HZ.out] at this; exact this
    have a0 := BX.out.c0
    have a1 := BX.out.c1
    have a2 := BX.out.c2
    have a3 := BX.out.c3
    have a4 := BX.out.c4
    have HQ4 := Lib.hid (below_row HR3.out hb1 (by rw [HZ.out]; omega))
    have HK1 := Lib.hid (HK.out.below hb1)
    clear hb1 HD HW HR1 HR2 HK HR3
    go_wp2_with fail
    go_at_call 34
    refine (takenUp_any N D W A A' n c m c' dn fu (by omega) (by omega) w1 HD1.out HW1.out).mono ?_
    rintro e w2 ⟨v1, v2, rfl, hT, hb2⟩
    obtain ⟨A1, n1, c1, rfl, hs1⟩ := hT.one.sl
    obtain ⟨A2, n2, c2, rfl, hs2⟩ := hT.two.sl
    have HT := Lib.hid hT
    have HS1 := Lib.hid hs1
    have HS2 := Lib.hid hs2
    have hn1 : n1 ≤ 65536 := by have h1 := hs1.1; have h2 := HD1.out.1; omega
    have hn2 : n2 ≤ 16384 := by have h1 := hs2.1; have h2 := HW1.out.1; omega
    have z2 : w.heap.size + 3 ≤ w2.heap.size := Nat.le_trans z1 hb2.size
    have HB2 := Lib.hid (HB.out.trans (hb2.mono HB.out.size))
    have HQ3 := Lib.hid (below_row HQ2.out hb2 (by omega))
    have RN := Lib.hid (heap_alloc_new w2 (.cells zAt 57))
    have BX3 := Lib.hid (row_dev (setRow_heap' (cs := devC N (.slice A1 n1 c1) (.slice A2 n2 c2) dn fu) RN.out))
    have K3 := Lib.hid (below_setRow ((Below.refl w2.heap.size w2).alloc (Nat.le_refl _) (.cells zAt 57)) (Nat.le_refl w2.heap.size) (devC N (.slice A1 n1 c1) (.slice A2 n2 c2) dn fu))
    have z3 : w2.heap.size < ((w2.alloc (.cells zAt 57)).setRow w2.heap.size (devC N (.slice A1 n1 c1) (.slice A2 n2 c2) dn fu)).heap.size := World.block_lt_of_cell? _ ⟨w2.heap.size, 0, none⟩ BX3.out.c0
    have HQ5 := Lib.hid (below_row HQ4.out hb2 (by omega))
    have HK2 := Lib.hid (HK1.out.below hb2)
    clear hs1 hs2 hT hb2 a0 a1 a2 a3 a4 BX HB HQ2 HD1 HW1
    go_wp2_with (first | fail | (refine wpList_store_row rfl 57 (.tmp 6) (.tmp 12) rfl w2.heap.size #[.int .u32 N, .slice A1 n1 c1, .slice A2 n2 c2, .bool dn, .int .i64 fu] rfl rfl 57 zAt RN.out (by kernel_rfl) rfl (dev_one _ _ _ _ _ _ _ _ _) ?_; change wpList _ _ _ _ _ ((w2.alloc (.cells zAt 57)).setRow w2.heap.size (devC N (.slice A1 n1 c1) (.slice A2 n2 c2) dn fu)); generalize (w2.alloc (.cells zAt 57)).setRow w2.heap.size (devC N (.slice A1 n1 c1) (.slice A2 n2 c2) dn fu) = W3 at *; have b0 := BX3.out.c0; have b1 := BX3.out.c1; have b2 := BX3.out.c2; have b3 := BX3.out.c3; have b4 := BX3.out.c4; have HQ9 := Lib.hid (below_row HQ3.out K3.out (by omega))))
    go_wp2_with fail
    clear b0 b1 b2 b3 b4
    go_at_call 36
    have HK3 := Lib.hid (HK2.out.below K3.out)
    have HQ6 := Lib.hid (below_row HQ5.out K3.out (by omega))
    have hbig : w.heap.size + 1 < W3.heap.size := by have := K3.out.size; omega
    refine (settle_kept D W A1 A2 n1 c1 n2 c2 dn fu ⟨w.heap.size + 1, 0, none⟩ BX3.out (by omega) (by omega) HUP.out (HS1.out.below K3.out) (HS2.out.below K3.out) (kp K) (fun i W' hb => (kept_any K i AK nk ck ⟨w.heap.size + 1, 0, none⟩ W' HK3.out.1 (cell_of_row _ _ 0 _ _ _ (below_row HQ6.out hb hbig)) (fun j hj => by
      obtain ⟨b, o, e, _, hc⟩ := (HK3.out.below hb).2 j hj
      exact ⟨b, o, e, hc⟩)).mono fun e w' h => h)).mono ?_
    rintro e w5 ⟨rfl, A3, n3, c3, hbx, hown, hb5⟩
    have BX5 := Lib.hid hbx
    have HO5 := Lib.hid hown
    have K5 := Lib.hid (K3.out.trans hb5)
    have d3 := BX5.out.c3
    have d4 := BX5.out.c4
    have g3 := BX5.out.fr 3
    have g4 := BX5.out.fr 4
    have BX6 := Lib.hid (BX5.out.set3 false)
    have d4' := BX6.out.c4
    have g4' := BX6.out.fr 4
    have BX7 := Lib.hid (BX6.out.set4 (-1))
    have K7 := Lib.hid ((K5.out.setCell (p := ⟨w2.heap.size, 3, none⟩) (Nat.le_refl _) (.bool false)).setCell (p := ⟨w2.heap.size, 4, none⟩) (Nat.le_refl _) (.int .i64 (-1)))
    have HO7 := Lib.hid ((HO5.out.far (p := ⟨w2.heap.size, 3, none⟩) z3 (.bool false)).far (p := ⟨w2.heap.size, 4, none⟩) z3 (.int .i64 (-1)))
    have e0 := BX7.out.c0
    have e1 := BX7.out.c1
    have e2 := BX7.out.c2
    have e3 := BX7.out.c3
    have e4 := BX7.out.c4
    have HQ9 := Lib.hid (below_row HQ3.out K7.out (by omega))
    clear hbx hown hb5
    go_wp2_with (first | (refine wpList_store_row rfl 25 (.tmp 4) (.tmp 20) rfl (w.heap.size + 2) #[.int .u32 N, .slice A3 n3 c3, .slice none 0 0, .bool false, .int .i64 (-1)] rfl rfl 25 zAt HQ9.out (by kernel_rfl) rfl (dev_one _ _ _ _ _ _ _ _ _) ?_))
    have hg2 := setRow_heap' (cs := #[.int .u32 N, .slice A3 n3 c3, .slice none 0 0, .bool false, .int .i64 (-1)]) HQ9.out
    refine bodyPost_ret (v := .tuple #[.agg #[.int .u32 N, .slice A3 n3 c3, .slice none 0 0, .bool false, .int .i64 (-1)], .int .i64 0]) (results_row2 rfl _ _ (w.heap.size + 2) 25 #[.int .u32 N, .slice A3 n3 c3, .slice none 0 0, .bool false, .int .i64 (-1)] (0, 0) _ rfl hg2 Tryd.underlying25 rfl (by kernel_rfl) _ rfl) rfl ?_
    exact ⟨_, rfl, DevAt.own (HO7.out.farRow (by omega) _) (Own.nil W3.heap.size _) HAL.out (Nat.zero_le _) (by decide) (by decide), below_setRow (HB2.out.trans (K7.out.mono HB2.out.size)) (by omega) _⟩
end Go.Proofs.YtjkapmghifglcaaDoor.Dv
