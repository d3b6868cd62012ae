/- Contracts of package dev's Check, Read, Flush. -/
import Derived.Test.YtjkapmghifglcaaDoorDvT
import Derived.Test.YtjkapmghifglcaaDoorRgG
namespace Go.Proofs.YtjkapmghifglcaaDoor.Dv
set_option linter.unusedVariables false
open Go.ChangeShapes Go.WideShapes Go.ChangeAt Go.RowKit
open Ar Rg St
open BigFrame
theorem results_row2 {P : Program} {fn : Func} {p u : Tmp} {ty : TypeId} (h : fn.results = #[.cell p ty, .tmp u]) (tmps : Array Value) (w : World) (g : Nat) (t : TypeId) (cs : Array Value) (fr : Nat × Nat) (d : TypeDesc)
    (hp : tmps.getD p undef = .pointer (some ⟨g, 0, none⟩)) (hg : w.heap[g]? = some (.cells cs t fr))
    (hu : P.underlying ty = some d) (hd : (match d with | .struct _ | .array _ _ => true | _ => false) = true) (hi : (P.info? ty).map (·.size) = some cs.size) (r : Value) (hr : tmps.getD u undef = r) :
    (results fn tmps).run P w = .ok (.tuple #[.agg cs, r]) w := by
  rw [results_cell_tmp h, hp, hr]
  simp [asAddr, run_loadVar_row w g t ty cs fr d hg hu hd hi, Result.andThen]
abbrev devC (N : Nat) (v1 v2 : Value) (dn : Bool) (fu : Int) : Array Value := #[.int .u32 N, v1, v2, .bool dn, .int .i64 fu]
theorem two_new (w : World) (c1 c2 : Array Value) (t1 t2 : TypeId) : ((w.alloc (.cells c1 t1)).alloc (.cells c2 t2)).heap[w.heap.size]? = some (.cells c1 t1 (0, 0)) ∧ ((w.alloc (.cells c1 t1)).alloc (.cells c2 t2)).heap[w.heap.size + 1]? = some (.cells c2 t2 (0, 0)) ∧
    Below w.heap.size w ((w.alloc (.cells c1 t1)).alloc (.cells c2 t2)) ∧ ((w.alloc (.cells c1 t1)).alloc (.cells c2 t2)).heap.size = w.heap.size + 2 := by
  refine ⟨?_, ?_, ((Below.refl _ _).alloc (Nat.le_refl _) _).alloc (by simp) _, by simp⟩
  · have h1 := heap_alloc_new w (.cells c1 t1)
    have h2 : Below (w.heap.size + 1) (w.alloc (.cells c1 t1)) ((w.alloc (.cells c1 t1)).alloc (.cells c2 t2)) := (Below.refl _ _).alloc (by simp) _
    exact (h2.block _ (Nat.lt_succ_self _)).trans h1
  · have h1 := heap_alloc_new (w.alloc (.cells c1 t1)) (.cells c2 t2)
    simpa using h1
theorem row_dev {w : World} {b N : Nat} {v1 v2 : Value} {dn : Bool} {fu : Int} {t : TypeId} (h : w.heap[b]? = some (.cells (devC N v1 v2 dn fu) t (0, 0))) : Box w b N v1 v2 dn fu :=
  ⟨cell_of_row _ _ 0 _ _ _ h, cell_of_row _ _ 1 _ _ _ h, cell_of_row _ _ 2 _ _ _ h, cell_of_row _ _ 3 _ _ _ h, cell_of_row _ _ 4 _ _ _ h, fun o => frozen_of_row _ _ _ _ _ h⟩
theorem below_row {B : Nat} {w w1 : World} {g : Nat} {o : Obj} (h : w.heap[g]? = some o) (hb : Below B w w1) (hg : g < B) : w1.heap[g]? = some o := (hb.block g hg).trans h
set_option maxRecDepth 100000 in
set_option maxHeartbeats 1000000 in
theorem check_any (x : De) (v : Value) (w : World) (hv : DevAt w v x) :
    Calls Tryd.prog 22 #[v] w fun e w' => e = .returned (.int .i64 (chO x)) ∧ Below w.heap.size w w' := by
  obtain ⟨A, n, c, A', m, c', rfl, hD, hW, hn, hm, f1, f2⟩ := hv
  have S0 : Below w.heap.size w (w.alloc (.cells (devC x.N (.slice A n c) (.slice A' m c') x.dn x.fu) 25)) := (Below.refl _ _).alloc (Nat.le_refl _) _
  have HD := Lib.hid (hD.below S0)
  have HW := Lib.hid (hW.below S0)
  have HS := Lib.hid S0
  clear hD hW S0
  unfold devV
  cases hr : x.rt
  · have HE := Lib.hid (show chO x = 7 by unfold chO; rw [hr]; rfl)
    have HR := Lib.hid (show rtD x.N x.D x.W = false from hr)
    rw [HE.out]
    clear hr
    go_enter Tryd.func22, Tryd.ntmps22
    go_wp2_with fail
    generalize w.alloc _ = W0 at *
    go_at_call 33
    refine (right_any x.N x.D x.W A A' n c m c' x.dn x.fu hn hm W0 HD.out HW.out).mono ?_
    rw [HR.out]
    rintro e w1 ⟨rfl, hb1⟩
    have HB := Lib.hid (HS.out.trans (hb1.mono HS.out.size))
    clear hb1
    go_wp2
    go_ret
    exact ⟨rfl, HB.out⟩
  · have HE := Lib.hid (show chO x = 0 by unfold chO; rw [hr]; rfl)
    have HR := Lib.hid (show rtD x.N x.D x.W = true from hr)
    rw [HE.out]
    clear hr
    go_enter Tryd.func22, Tryd.ntmps22
    go_wp2_with fail
    generalize w.alloc _ = W0 at *
    go_at_call 33
    refine (right_any x.N x.D x.W A A' n c m c' x.dn x.fu hn hm W0 HD.out HW.out).mono ?_
    rw [HR.out]
    rintro e w1 ⟨rfl, hb1⟩
    have HB := Lib.hid (HS.out.trans (hb1.mono HS.out.size))
    clear hb1
    go_wp2
    go_ret
    exact ⟨rfl, HB.out⟩
/-- the device reads as it is, behind the call -/
theorem DevAt.own {wr : World} {B N : Nat} {D W : List Bk} {v1 v2 : Value} {dn : Bool} {fu : Int} (h1 : Own B wr v1 D) (h2 : Own B wr v2 W) (hn : D.length ≤ 281474976710656) (hm : W.length ≤ 281474976710656) (f1 : -9223372036854775808 ≤ fu) (f2 : fu ≤ 9223372036854775807) :
    DevAt wr (.agg #[.int .u32 N, v1, v2, .bool dn, .int .i64 fu]) ⟨N, D, W, dn, fu⟩ := by
  obtain ⟨A, n, c, rfl, hs1⟩ := h1.sl
  obtain ⟨A', m, c', rfl, hs2⟩ := h2.sl
  exact ⟨A, n, c, A', m, c', rfl, hs1, hs2, by rw [hs1.1]; exact hn, by rw [hs2.1]; exact hm, f1, f2⟩
theorem don_len (c : Bk) (D : List Bk) : (don c D).length ≤ D.length + 1 := by
  have key : ∀ (D : List Bk) (p : Bool), (donL c p D).length ≤ D.length + (if p then 0 else 1) := by
    intro D
    induction D with
    | nil => intro p; cases p <;> simp [donL]
    | cons x D ih =>
      intro p
      have h1 := ih true
      have h2 := ih false
      have h3 := ih p
      simp only [donL, List.length_cons] at *
      cases hq : lt (key x) (ckey c) <;> cases p <;> simp [hq] at * <;> (repeat' split) <;> simp <;> omega
  unfold don
  exact Nat.le_trans (key D _) (by split <;> omega)
theorem app_len (D C : List Bk) : (app D C).length ≤ D.length + C.length := by
  induction C generalizing D with
  | nil => exact Nat.le_refl _
  | cons c C ih =>
    rw [app_cons]
    have := ih (don c D)
    have := don_len c D
    simp only [List.length_cons]
    omega
set_option maxRecDepth 100000 in
set_option maxHeartbeats 4000000 in
theorem flush_any (x : De) (v : Value) (w : World) (hv : DevAt w v x) :
    Calls Tryd.prog 16 #[v] w fun e w' => ∃ v', e = .returned (.tuple #[v', .int .i64 (flO x)]) ∧ DevAt w' v' (flX x) ∧ Below w.heap.size w w' := by
  obtain ⟨A, n, c, A', m, c', rfl, hD, hW, hn, hm, f1, f2⟩ := hv
  obtain ⟨N, D, W, dn, fu⟩ := x
  dsimp only at hD hW f1 f2 ⊢
  obtain ⟨R1, R2, S0, Z0⟩ := two_new w (devC N (.slice A n c) (.slice A' m c') dn fu) zAt 25 25
  have HR1 := Lib.hid R1
  have HR2 := Lib.hid R2
  have HZ := Lib.hid Z0
  have HD := Lib.hid (hD.below S0)
  have HW := Lib.hid (hW.below S0)
  have HS := Lib.hid S0
  have hD0 := hD.1
  have hW0 := hW.1
  clear hD hW S0 R1 R2 Z0
  unfold devV
  cases hr : De.rt ⟨N, D, W, dn, fu⟩
  · have HE := Lib.hid (show flO ⟨N, D, W, dn, fu⟩ = 7 by unfold flO; rw [hr]; rfl)
    have HX := Lib.hid (show flX ⟨N, D, W, dn, fu⟩ = De.zero by unfold flX; rw [hr]; rfl)
    have HR := Lib.hid (show rtD N D W = false from hr)
    rw [HE.out, HX.out]
    clear hr hD0 hW0
    go_enter Tryd.func16, Tryd.ntmps16
    go_wp2_with fail
    generalize (w.alloc _).alloc _ = W0 at *
    go_at_call 33
    refine (right_any N D W A A' n c m c' dn fu hn hm W0 HD.out HW.out).mono ?_
    rw [HR.out]
    rintro e w1 ⟨rfl, hb1⟩
    have HB := Lib.hid (HS.out.trans (hb1.mono HS.out.size))
    have HQ2 := Lib.hid (below_row HR2.out hb1 (by rw [HZ.out]; omega))
    clear hb1
    go_wp2_with (refine wpList_store_row rfl 25 (.tmp 2) (.tmp 9) rfl (w.heap.size + 1) #[.int .u32 0, .slice none 0 0, .slice none 0 0, .bool false, .int .i64 0] rfl rfl 25 zAt HQ2.out (by kernel_rfl) rfl (dev_one _ _ _ _ _ _ _ _ _) ?_)
    have hg2 := setRow_heap' (cs := #[.int .u32 0, .slice none 0 0, .slice none 0 0, .bool false, .int .i64 0]) HQ2.out
    refine bodyPost_ret (v := .tuple #[.agg #[.int .u32 0, .slice none 0 0, .slice none 0 0, .bool false, .int .i64 0], .int .i64 7]) (results_row2 rfl _ _ (w.heap.size + 1) 25 #[.int .u32 0, .slice none 0 0, .slice none 0 0, .bool false, .int .i64 0] (0, 0) _ rfl hg2 Tryd.underlying25 rfl (by kernel_rfl) _ rfl) rfl ?_
    exact ⟨_, rfl, DevAt.zero _, below_setRow HB.out (by omega) _⟩
  · have HR := Lib.hid (show rtD N D W = true from hr)
    have hlen := rt_len hr
    dsimp only at hlen
    have hnl : n ≤ 65536 := by omega
    have HDL := Lib.hid (show D.length ≤ 65536 from hlen.1)
    have hml : m ≤ 16384 := by omega
    have HUP := Lib.hid (show UpK key D from (rt_parts hr).2.2.1)
    have HWL := Lib.hid hW0
    clear hlen hD0 hW0
    cases dn
    · have HE := Lib.hid (show flO ⟨N, D, W, false, fu⟩ = burnE fu by unfold flO; rw [hr]; rfl)
      have HX := Lib.hid (show flX ⟨N, D, W, false, fu⟩ = if fu = 0 then ⟨N, D, W, true, fu⟩ else ⟨N, app D W, [], false, burnF fu⟩ by unfold flX; rw [hr]; rfl)
      rw [HE.out, HX.out]
      clear hr HE HX
      by_cases h0 : fu = 0
      · subst h0
        rw [if_pos rfl, show burnE 0 = 17 from rfl]
        go_enter Tryd.func16, Tryd.ntmps16
        go_wp2_with fail
        generalize (w.alloc _).alloc _ = W0 at *
        go_at_call 33
        refine (right_any N D W A A' n c m c' false 0 hn hm W0 HD.out HW.out).mono ?_
        rw [HR.out]
        rintro e w1 ⟨rfl, hb1⟩
        have HB := Lib.hid (HS.out.trans (hb1.mono HS.out.size))
        have HQ2 := Lib.hid (below_row HR2.out hb1 (by rw [HZ.out]; omega))
        have BX := Lib.hid (row_dev (below_row HR1.out hb1 (by rw [HZ.out]; omega)))
        have HD1 := Lib.hid (HD.out.below hb1)
        have HW1 := Lib.hid (HW.out.below hb1)
        have z1 : w.heap.size + 2 ≤ w1.heap.size := by have := hb1.size; rw [HZ.out] at this; exact this
        have a0 := BX.out.c0
        have a1 := BX.out.c1
        have a2 := BX.out.c2
        have a3 := BX.out.c3
        have a4 := BX.out.c4
        clear hb1 HD HW HR1 HR2
        go_wp2_with fail
        go_at_call 34
        refine (takenUp_any N D W A A' n c m c' false 0 (by omega) (by omega) w1 HD1.out HW1.out).mono ?_
        rintro e w2 ⟨v1, v2, rfl, hT, hb2⟩
        obtain ⟨A1, n1, c1, rfl, hs1⟩ := hT.one.sl
        obtain ⟨A2, n2, c2, rfl, hs2⟩ := hT.two.sl
        have HT := Lib.hid hT
        have HS1 := Lib.hid hs1
        have HS2 := Lib.hid hs2
        have hn1 : n1 ≤ 65536 := by have h1 := hs1.1; have h2 := HD1.out.1; omega
        have hn2 : n2 ≤ 16384 := by have h1 := hs2.1; have h2 := HW1.out.1; omega
        have z2 : w.heap.size + 2 ≤ w2.heap.size := Nat.le_trans z1 hb2.size
        have HB2 := Lib.hid (HB.out.trans (hb2.mono HB.out.size))
        have HQ3 := Lib.hid (below_row HQ2.out hb2 (by omega))
        have RN := Lib.hid (heap_alloc_new w2 (.cells zAt 57))
        have BX3 := Lib.hid (row_dev (setRow_heap' (cs := devC N (.slice A1 n1 c1) (.slice A2 n2 c2) false 0) RN.out))
        have K3 := Lib.hid (below_setRow ((Below.refl w2.heap.size w2).alloc (Nat.le_refl _) (.cells zAt 57)) (Nat.le_refl w2.heap.size) (devC N (.slice A1 n1 c1) (.slice A2 n2 c2) false 0))
        have z3 : w2.heap.size < ((w2.alloc (.cells zAt 57)).setRow w2.heap.size (devC N (.slice A1 n1 c1) (.slice A2 n2 c2) false 0)).heap.size := World.block_lt_of_cell? _ ⟨w2.heap.size, 0, none⟩ BX3.out.c0
        clear hs1 hs2 hT hb2 a0 a1 a2 a3 a4 BX HB HQ2 HD1 HW1
        go_wp2_with (first | fail | (refine wpList_store_row rfl 57 (.tmp 4) (.tmp 11) rfl w2.heap.size #[.int .u32 N, .slice A1 n1 c1, .slice A2 n2 c2, .bool false, .int .i64 0] rfl rfl 57 zAt RN.out (by kernel_rfl) rfl (dev_one _ _ _ _ _ _ _ _ _) ?_; change wpList _ _ _ _ _ ((w2.alloc (.cells zAt 57)).setRow w2.heap.size (devC N (.slice A1 n1 c1) (.slice A2 n2 c2) false 0)); generalize (w2.alloc (.cells zAt 57)).setRow w2.heap.size (devC N (.slice A1 n1 c1) (.slice A2 n2 c2) false 0) = W3 at *; have b0 := BX3.out.c0; have b1 := BX3.out.c1; have b2 := BX3.out.c2; have b3 := BX3.out.c3; have b4 := BX3.out.c4; have HQ9 := Lib.hid (below_row HQ3.out K3.out (by omega))))
        go_at_call 35
        refine (burn_any BX3.out f1 f2).mono ?_
        rintro e w4 ⟨rfl, hw4⟩
        have BX4 := Lib.hid (hw4 ▸ BX3.out.burn)
        have K4 := Lib.hid (hw4 ▸ below_burn K3.out (Nat.le_refl w2.heap.size) 0)
        have HQ9 := Lib.hid (below_row HQ3.out K4.out (by omega))
        have e0 := BX4.out.c0
        have e1 := BX4.out.c1
        have e2 := BX4.out.c2
        have e3 := BX4.out.c3
        have e4 := BX4.out.c4
        clear b0 b1 b2 b3 b4 hw4
        rw [show burnE 0 = 17 from rfl]
        go_wp2_with (first | (refine wpList_store_row rfl 25 (.tmp 2) (.tmp 21) rfl (w.heap.size + 1) #[.int .u32 N, .slice A1 n1 c1, .slice A2 n2 c2, .bool true, .int .i64 0] rfl rfl 25 zAt HQ9.out (by kernel_rfl) rfl (dev_one _ _ _ _ _ _ _ _ _) ?_))
        have hg2 := setRow_heap' (cs := #[.int .u32 N, .slice A1 n1 c1, .slice A2 n2 c2, .bool true, .int .i64 0]) HQ9.out
        refine bodyPost_ret (v := .tuple #[.agg #[.int .u32 N, .slice A1 n1 c1, .slice A2 n2 c2, .bool true, .int .i64 0], .int .i64 17]) (results_row2 rfl _ _ (w.heap.size + 1) 25 #[.int .u32 N, .slice A1 n1 c1, .slice A2 n2 c2, .bool true, .int .i64 0] (0, 0) _ rfl hg2 Tryd.underlying25 rfl (by kernel_rfl) _ rfl) rfl ?_
        exact ⟨_, rfl, DevAt.own ((HT.out.one.go K4.out).farRow (by omega) _) ((HT.out.two.go K4.out).farRow (by omega) _) (by have := HS1.out.1; omega) (by have := HS2.out.1; omega) f1 f2, below_setRow (HB2.out.trans (K4.out.mono HB2.out.size)) (by omega) _⟩
      · have HAL := Lib.hid (show (app D W).length ≤ 281474976710656 by have := app_len D W; have := HWL.out; have := HDL.out; omega)
        have hE := Lib.hid (show burnE fu = 0 by unfold burnE; rw [if_neg h0])
        rw [if_neg h0, hE.out]
        go_enter Tryd.func16, Tryd.ntmps16
        go_wp2_with fail
        generalize (w.alloc _).alloc _ = W0 at *
        go_at_call 33
        refine (right_any N D W A A' n c m c' false fu hn hm W0 HD.out HW.out).mono ?_
        rw [HR.out]
        rintro e w1 ⟨rfl, hb1⟩
        have HB := Lib.hid (HS.out.trans (hb1.mono HS.out.size))
        have HQ2 := Lib.hid (below_row HR2.out hb1 (by rw [HZ.out]; omega))
        have BX := Lib.hid (row_dev (below_row HR1.out hb1 (by rw [HZ.out]; omega)))
        have HD1 := Lib.hid (HD.out.below hb1)
        have HW1 := Lib.hid (HW.out.below hb1)
        have z1 : w.heap.size + 2 ≤ w1.heap.size := by have := hb1.size; rw [HZ.out] at this; exact this
        have a0 := BX.out.c0
        have a1 := BX.out.c1
        have a2 := BX.out.c2
        have a3 := BX.out.c3
        have a4 := BX.out.c4
        clear hb1 HD HW HR1 HR2
        go_wp2_with fail
        go_at_call 34
        refine (takenUp_any N D W A A' n c m c' false fu (by omega) (by omega) w1 HD1.out HW1.out).mono ?_
        rintro e w2 ⟨v1, v2, rfl, hT, hb2⟩
        obtain ⟨A1, n1, c1, rfl, hs1⟩ := hT.one.sl
        obtain ⟨A2, n2, c2, rfl, hs2⟩ := hT.two.sl
        have HT := Lib.hid hT
        have HS1 := Lib.hid hs1
        have HS2 := Lib.hid hs2
        have hn1 : n1 ≤ 65536 := by have h1 := hs1.1; have h2 := HD1.out.1; omega
        have hn2 : n2 ≤ 16384 := by have h1 := hs2.1; have h2 := HW1.out.1; omega
        have z2 : w.heap.size + 2 ≤ w2.heap.size := Nat.le_trans z1 hb2.size
        have HB2 := Lib.hid (HB.out.trans (hb2.mono HB.out.size))
        have HQ3 := Lib.hid (below_row HQ2.out hb2 (by omega))
        have RN := Lib.hid (heap_alloc_new w2 (.cells zAt 57))
        have BX3 := Lib.hid (row_dev (setRow_heap' (cs := devC N (.slice A1 n1 c1) (.slice A2 n2 c2) false fu) RN.out))
        have K3 := Lib.hid (below_setRow ((Below.refl w2.heap.size w2).alloc (Nat.le_refl _) (.cells zAt 57)) (Nat.le_refl w2.heap.size) (devC N (.slice A1 n1 c1) (.slice A2 n2 c2) false fu))
        have z3 : w2.heap.size < ((w2.alloc (.cells zAt 57)).setRow w2.heap.size (devC N (.slice A1 n1 c1) (.slice A2 n2 c2) false fu)).heap.size := World.block_lt_of_cell? _ ⟨w2.heap.size, 0, none⟩ BX3.out.c0
        clear hs1 hs2 hT hb2 a0 a1 a2 a3 a4 BX HB HQ2 HD1 HW1
        go_wp2_with (first | fail | (refine wpList_store_row rfl 57 (.tmp 4) (.tmp 11) rfl w2.heap.size #[.int .u32 N, .slice A1 n1 c1, .slice A2 n2 c2, .bool false, .int .i64 fu] rfl rfl 57 zAt RN.out (by kernel_rfl) rfl (dev_one _ _ _ _ _ _ _ _ _) ?_; change wpList _ _ _ _ _ ((w2.alloc (.cells zAt 57)).setRow w2.heap.size (devC N (.slice A1 n1 c1) (.slice A2 n2 c2) false fu)); generalize (w2.alloc (.cells zAt 57)).setRow w2.heap.size (devC N (.slice A1 n1 c1) (.slice A2 n2 c2) false fu) = W3 at *; have b0 := BX3.out.c0; have b1 := BX3.out.c1; have b2 := BX3.out.c2; have b3 := BX3.out.c3; have b4 := BX3.out.c4; have HQ9 := Lib.hid (below_row HQ3.out K3.out (by omega))))
        go_at_call 35
        refine (burn_any BX3.out f1 f2).mono ?_
        rintro e w4 ⟨rfl, hw4⟩
        have BX4 := Lib.hid (hw4 ▸ BX3.out.burn)
        have K4 := Lib.hid (hw4 ▸ below_burn K3.out (Nat.le_refl w2.heap.size) fu)
        rw [show burnD false fu = false by unfold burnD; rw [if_neg h0]] at BX4
        rw [hE.out]
        go_wp2_with fail
        clear b0 b1 b2 b3 b4 hw4
        go_at_call 36
        refine (settle_all D W A1 A2 n1 c1 n2 c2 false (burnF fu) BX4.out (by omega) (by omega) HUP.out (HS1.out.below K4.out) (HS2.out.below K4.out) (fun _ => true) (fun i W' _ => all_any i W')).mono ?_
        rintro e w5 ⟨rfl, A3, n3, c3, hbx, hown, hb5⟩
        have BX5 := Lib.hid hbx
        have HO5 := Lib.hid (show Own w4.heap.size w5 (.slice A3 n3 c3) (app D W) by rw [kpt_all W W.length (Nat.le_refl _), List.take_length] at hown; exact hown)
        have K5 := Lib.hid (K4.out.trans hb5)
        have HQ9 := Lib.hid (below_row HQ3.out K5.out (by omega))
        have e0 := BX5.out.c0
        have e1 := BX5.out.c1
        have e2 := BX5.out.c2
        have e3 := BX5.out.c3
        have e4 := BX5.out.c4
        clear hbx hown hb5
        go_wp2_with (first | (refine wpList_store_row rfl 25 (.tmp 2) (.tmp 25) rfl (w.heap.size + 1) #[.int .u32 N, .slice A3 n3 c3, .slice none 0 0, .bool false, .int .i64 (burnF fu)] rfl rfl 25 zAt HQ9.out (by kernel_rfl) rfl (dev_one _ _ _ _ _ _ _ _ _) ?_))
        have hg2 := setRow_heap' (cs := #[.int .u32 N, .slice A3 n3 c3, .slice none 0 0, .bool false, .int .i64 (burnF fu)]) HQ9.out
        refine bodyPost_ret (v := .tuple #[.agg #[.int .u32 N, .slice A3 n3 c3, .slice none 0 0, .bool false, .int .i64 (burnF fu)], .int .i64 0]) (results_row2 rfl _ _ (w.heap.size + 1) 25 #[.int .u32 N, .slice A3 n3 c3, .slice none 0 0, .bool false, .int .i64 (burnF fu)] (0, 0) _ rfl hg2 Tryd.underlying25 rfl (by kernel_rfl) _ rfl) rfl ?_
        have hz4 : w.heap.size + 1 < w4.heap.size := by have := K4.out.size; omega
        have hf1 : -9223372036854775808 ≤ burnF fu := by unfold burnF; split <;> omega
        have hf2 : burnF fu ≤ 9223372036854775807 := by unfold burnF; split <;> omega
        exact ⟨_, rfl, DevAt.own (HO5.out.farRow hz4 _) (Own.nil w4.heap.size _) HAL.out (Nat.zero_le _) hf1 hf2, below_setRow (HB2.out.trans (K5.out.mono HB2.out.size)) (by omega) _⟩
    · have HE := Lib.hid (show flO ⟨N, D, W, true, fu⟩ = 17 by unfold flO; rw [hr]; rfl)
      have HX := Lib.hid (show flX ⟨N, D, W, true, fu⟩ = ⟨N, D, W, true, fu⟩ by unfold flX; rw [hr]; rfl)
      rw [HE.out, HX.out]
      clear hr HE HX
      go_enter Tryd.func16, Tryd.ntmps16
      go_wp2_with fail
      generalize (w.alloc _).alloc _ = W0 at *
      go_at_call 33
      refine (right_any N D W A A' n c m c' true fu hn hm W0 HD.out HW.out).mono ?_
      rw [HR.out]
      rintro e w1 ⟨rfl, hb1⟩
      have HB := Lib.hid (HS.out.trans (hb1.mono HS.out.size))
      have HQ2 := Lib.hid (below_row HR2.out hb1 (by rw [HZ.out]; omega))
      have BX := Lib.hid (row_dev (below_row HR1.out hb1 (by rw [HZ.out]; omega)))
      have HD1 := Lib.hid (HD.out.below hb1)
      have HW1 := Lib.hid (HW.out.below hb1)
      have z1 : w.heap.size + 2 ≤ w1.heap.size := by have := hb1.size; rw [HZ.out] at this; exact this
      have a0 := BX.out.c0
      have a1 := BX.out.c1
      have a2 := BX.out.c2
      have a3 := BX.out.c3
      have a4 := BX.out.c4
      clear hb1 HD HW HR1 HR2
      go_wp2_with fail
      go_at_call 34
      refine (takenUp_any N D W A A' n c m c' true fu (by omega) (by omega) w1 HD1.out HW1.out).mono ?_
      rintro e w2 ⟨v1, v2, rfl, hT, hb2⟩
      obtain ⟨A1, n1, c1, rfl, hs1⟩ := hT.one.sl
      obtain ⟨A2, n2, c2, rfl, hs2⟩ := hT.two.sl
      have HT := Lib.hid hT
      have HS1 := Lib.hid hs1
      have HS2 := Lib.hid hs2
      have hn1 : n1 ≤ 65536 := by have h1 := hs1.1; have h2 := HD1.out.1; omega
      have hn2 : n2 ≤ 16384 := by have h1 := hs2.1; have h2 := HW1.out.1; omega
      have z2 : w.heap.size + 2 ≤ w2.heap.size := Nat.le_trans z1 hb2.size
      have HB2 := Lib.hid (HB.out.trans (hb2.mono HB.out.size))
      have HQ3 := Lib.hid (below_row HQ2.out hb2 (by omega))
      have RN := Lib.hid (heap_alloc_new w2 (.cells zAt 57))
      have BX3 := Lib.hid (row_dev (setRow_heap' (cs := devC N (.slice A1 n1 c1) (.slice A2 n2 c2) true fu) RN.out))
      have K3 := Lib.hid (below_setRow ((Below.refl w2.heap.size w2).alloc (Nat.le_refl _) (.cells zAt 57)) (Nat.le_refl w2.heap.size) (devC N (.slice A1 n1 c1) (.slice A2 n2 c2) true fu))
      have z3 : w2.heap.size < ((w2.alloc (.cells zAt 57)).setRow w2.heap.size (devC N (.slice A1 n1 c1) (.slice A2 n2 c2) true fu)).heap.size := World.block_lt_of_cell? _ ⟨w2.heap.size, 0, none⟩ BX3.out.c0
      clear hs1 hs2 hT hb2 a0 a1 a2 a3 a4 BX HB HQ2 HD1 HW1
      go_wp2_with (first | (refine wpList_store_row rfl 25 (.tmp 2) (.tmp 16) rfl (w.heap.size + 1) #[.int .u32 N, .slice A1 n1 c1, .slice A2 n2 c2, .bool true, .int .i64 fu] rfl rfl 25 zAt HQ9.out (by kernel_rfl) rfl (dev_one _ _ _ _ _ _ _ _ _) ?_) | (refine wpList_store_row rfl 57 (.tmp 4) (.tmp 11) rfl w2.heap.size #[.int .u32 N, .slice A1 n1 c1, .slice A2 n2 c2, .bool true, .int .i64 fu] rfl rfl 57 zAt RN.out (by kernel_rfl) rfl (dev_one _ _ _ _ _ _ _ _ _) ?_; change wpList _ _ _ _ _ ((w2.alloc (.cells zAt 57)).setRow w2.heap.size (devC N (.slice A1 n1 c1) (.slice A2 n2 c2) true fu)); generalize (w2.alloc (.cells zAt 57)).setRow w2.heap.size (devC N (.slice A1 n1 c1) (.slice A2 n2 c2) true fu) = W3 at *; have b0 := BX3.out.c0; have b1 := BX3.out.c1; have b2 := BX3.out.c2; have b3 := BX3.out.c3; have b4 := BX3.out.c4; have HQ9 := Lib.hid (below_row HQ3.out K3.out (by omega))))
      have hg2 := setRow_heap' (cs := #[.int .u32 N, .slice A1 n1 c1, .slice A2 n2 c2, .bool true, .int .i64 fu]) HQ9.out
      refine bodyPost_ret (v := .tuple #[.agg #[.int .u32 N, .slice A1 n1 c1, .slice A2 n2 c2, .bool true, .int .i64 fu], .int .i64 17]) (results_row2 rfl _ _ (w.heap.size + 1) 25 #[.int .u32 N, .slice A1 n1 c1, .slice A2 n2 c2, .bool true, .int .i64 fu] (0, 0) _ rfl hg2 Tryd.underlying25 rfl (by kernel_rfl) _ rfl) rfl ?_
      exact ⟨_, rfl, DevAt.own ((HT.out.one.go K3.out).farRow (by omega) _) ((HT.out.two.go K3.out).farRow (by omega) _) (by have := HS1.out.1; omega) (by have := HS2.out.1; omega) f1 f2, below_setRow (HB2.out.trans (K3.out.mono HB2.out.size)) (by omega) _⟩
end Go.Proofs.YtjkapmghifglcaaDoor.Dv
