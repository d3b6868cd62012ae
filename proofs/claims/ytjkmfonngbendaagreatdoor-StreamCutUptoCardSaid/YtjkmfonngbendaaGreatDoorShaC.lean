/- Contract of package hash's step: the state behind a piece of those words. -/
import Derived.Test.YtjkmfonngbendaaGreatDoorShaB
namespace Go.Proofs.YtjkmfonngbendaaGreatDoor.Hk
set_option linter.unusedVariables false
open Go.ChangeShapes Go.WideShapes Go.ChangeAt Go.RowKit
variable {tK tS : TypeId}
def stV (s : St) : Array Value := #[.int .u32 (vN s.a), .int .u32 (vN s.b), .int .u32 (vN s.c), .int .u32 (vN s.d), .int .u32 (vN s.e), .int .u32 (vN s.f), .int .u32 (vN s.g), .int .u32 (vN s.h)]
theorem infoS8 {s : St} : (Tryz.prog.info? 122).map (·.size) = some (stV s).size := by kernel_rfl
theorem stV_one (s : St) : (stV s).all (·.oneCell') = true := arr_one s.list
theorem mix0_still (x : BitVec 32) (w : World) : Calls Tryz.prog 157 #[.int .u32 (vN x)] w fun e w' => e = .returned (.int .u32 (vN (mx0 x))) ∧ w' = w := (mix0_any x w).mono fun _ _ h => ⟨h.1, h.2.symm⟩
theorem mix1_still (x : BitVec 32) (w : World) : Calls Tryz.prog 155 #[.int .u32 (vN x)] w fun e w' => e = .returned (.int .u32 (vN (mx1 x))) ∧ w' = w := (mix1_any x w).mono fun _ _ h => ⟨h.1, h.2.symm⟩
theorem choice_still (x y z : BitVec 32) (w : World) : Calls Tryz.prog 156 #[.int .u32 (vN x), .int .u32 (vN y), .int .u32 (vN z)] w fun e w' => e = .returned (.int .u32 (vN (cho x y z))) ∧ w' = w := (choice_any x y z w).mono fun _ _ h => ⟨h.1, h.2.symm⟩
theorem alloc3_0 (w : World) (a b c : Obj) (n : Nat) : ((((w.alloc a).alloc b).alloc c).drewN n).heap[w.heap.size]? = some a := by
  show (((w.heap.push a).push b).push c)[w.heap.size]? = _
  rw [Array.getElem?_push, if_neg (by simp; omega), Array.getElem?_push, if_neg (by simp), Array.getElem?_push, if_pos rfl]
theorem alloc3_1 (w : World) (a b c : Obj) (n : Nat) : ((((w.alloc a).alloc b).alloc c).drewN n).heap[w.heap.size + 1]? = some b := by
  show (((w.heap.push a).push b).push c)[w.heap.size + 1]? = _
  rw [Array.getElem?_push, if_neg (by simp), Array.getElem?_push, if_pos (by simp)]
theorem alloc3_2 (w : World) (a b c : Obj) (n : Nat) : ((((w.alloc a).alloc b).alloc c).drewN n).heap[w.heap.size + 1 + 1]? = some c := by
  show (((w.heap.push a).push b).push c)[w.heap.size + 1 + 1]? = _
  rw [Array.getElem?_push, if_pos (by simp)]
theorem alloc3_below (w : World) (a b c : Obj) (n : Nat) : Below w.heap.size w ((((w.alloc a).alloc b).alloc c).drewN n) := by
  have := (((Below.refl w.heap.size w).alloc (Nat.le_refl _) a).alloc (by simp) b).alloc (by simp; omega) c
  exact ⟨this.os, this.tape, this.output, this.size, this.block⟩
set_option maxRecDepth 100000 in
set_option maxHeartbeats 1000000 in
theorem step_any (s : St) (K W : List (BitVec 32)) (hW : W.length = 64) (hK : K.length = 64) (w : World) (hg : 1 < w.heap.size) (hR : Row w 1 tK K) :
    Calls Tryz.prog 116 #[.agg #[.int .u32 (vN s.a), .int .u32 (vN s.b), .int .u32 (vN s.c), .int .u32 (vN s.d), .int .u32 (vN s.e), .int .u32 (vN s.f), .int .u32 (vN s.g), .int .u32 (vN s.h)], .agg (arr W)] w fun e w' => e = .returned (.agg (stV (s.plus (rounds8 K W s 64)))) ∧ Below w.heap.size w w' := by
  have HR := Lib.hid hR
  have HW := Lib.hid hW
  have HK := Lib.hid hK
  clear hR hW hK
  go_enter Tryz.func116, Tryz.ntmps116
  go_wp2
  go_quiet (fail)
  go_wp2
  go_loopw [5, 6, 7, 8, 9, 10, 11, 12, 32] (fun v5 v6 v7 v8 v9 v10 v11 v12 v wr => ∃ t : Nat, ∃ q : St, t ≤ 64 ∧ v = .int .i64 t ∧ q = rounds8 K W s t ∧ v5 = .int .u32 (vN q.a) ∧ v6 = .int .u32 (vN q.b) ∧ v7 = .int .u32 (vN q.c) ∧ v8 = .int .u32 (vN q.d) ∧ v9 = .int .u32 (vN q.e) ∧ v10 = .int .u32 (vN q.f) ∧ v11 = .int .u32 (vN q.g) ∧ v12 = .int .u32 (vN q.h) ∧
      Row wr w.heap.size 122 s.list ∧ Row wr (w.heap.size + 1) 190 W ∧ Row wr (w.heap.size + 1 + 1) 122 (List.replicate 8 0#32) ∧ Below w.heap.size w wr) (fun _ _ _ _ _ _ _ _ v _ => 64 - (intOf v).toNat)
  case atStart => exact ⟨0, s, Nat.zero_le _, rfl, rfl, rfl, rfl, rfl, rfl, rfl, rfl, rfl, rfl, alloc3_0 w _ _ _ _, alloc3_1 w _ _ _ _, alloc3_2 w _ _ _ _, alloc3_below w _ _ _ _⟩
  case round =>
    obtain ⟨t, q, ht, rfl, hq, rfl, rfl, rfl, rfl, rfl, rfl, rfl, rfl, r0, r1, r2, hbel⟩ := hrel
    have HQ := Lib.hid hq
    clear hq
    by_cases hlt : t < 64
    · obtain ⟨wt, hwt⟩ : ∃ x, W[t]? = some x := ⟨_, List.getElem?_eq_getElem (by rw [HW.out]; exact hlt)⟩
      obtain ⟨kt, hkt⟩ : ∃ x, K[t]? = some x := ⟨_, List.getElem?_eq_getElem (by rw [HK.out]; exact hlt)⟩
      have cw := r1.cell hwt
      have ck : wr.cell? ⟨1, t, none⟩ = some (.int .u32 (vN kt)) := by rw [hbel.cell hg]; exact HR.out.cell hkt
      have HN := Lib.hid (show rounds8 K W s (t + 1) = q.round kt wt by rw [rounds8, ← HQ.out, List.getD_eq_getElem?_getD, List.getD_eq_getElem?_getD, hwt, hkt]; rfl)
      have H0 := Lib.hid r0
      have H1 := Lib.hid r1
      have H2 := Lib.hid r2
      clear hwt hkt r0 r1 r2
      have t0 : 0 ≤ (t : Int) := by omega
      have t1 : (t : Int) < 64 := by omega
      have X := vN_wadd
      go_wp2
      go_quiet ((first | (go_at_call 155; exact Calls.quiet_of_same (mix1_still _ _)) | (go_at_call 156; exact Calls.quiet_of_same (choice_still _ _ _ _))))
      go_wp2_with (first
        | (go_at_call 157; refine (mix0_any _ _).mono ?_; rintro e w' ⟨rfl, rfl⟩)
        | (go_at_call 158; refine (maj_any _ _ _ _).mono ?_; rintro e w' ⟨rfl, rfl⟩))
      go_roundw
      case rel => exact ⟨t + 1, q.round kt wt, by omega, by go_num, HN.out.symm, rfl, rfl, rfl, rfl, rfl, rfl, rfl, rfl, H0.out, H1.out, H2.out, ⟨hbel.os, hbel.tape, hbel.output, hbel.size, hbel.block⟩⟩
      case measure => simp [intOf]; omega
    · obtain rfl : t = 64 := by omega
      have X := vN_wadd
      have c0 := r0.cell (j := 0) (x := s.a) rfl
      have c1 := r0.cell (j := 1) (x := s.b) rfl
      have c2 := r0.cell (j := 2) (x := s.c) rfl
      have c3 := r0.cell (j := 3) (x := s.d) rfl
      have c4 := r0.cell (j := 4) (x := s.e) rfl
      have c5 := r0.cell (j := 5) (x := s.f) rfl
      have c6 := r0.cell (j := 6) (x := s.g) rfl
      have c7 := r0.cell (j := 7) (x := s.h) rfl
      have R2 := Lib.hid (show wr.heap[w.heap.size + 1 + 1]? = some (.cells (arr (List.replicate 8 0#32)) 122 (0, 0)) from r2)
      clear r0 r1 r2
      go_wp2_with (first
        | (refine wpList_store_row rfl 122 (.tmp 4) (.tmp 104) rfl (w.heap.size + 1 + 1) (stV (s.plus q)) rfl rfl 122 (arr (List.replicate 8 0#32)) R2.out infoS8 rfl (stV_one _) ?_))
      have hg2 := setRow_heap wr (w.heap.size + 1 + 1) (arr (List.replicate 8 0#32)) (stV (s.plus q)) 122 (0, 0) R2.out
      refine bodyPost_ret (v := .agg (stV (s.plus q))) (results_cell_row rfl _ _ (w.heap.size + 1 + 1) 122 (stV (s.plus q)) (0, 0) _ rfl hg2 Tryz.underlying122 rfl infoS8) rfl ⟨by rw [HQ.out], below_setRow hbel (by omega) _⟩
end Go.Proofs.YtjkmfonngbendaaGreatDoor.Hk
