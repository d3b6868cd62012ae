/- Contract of the document's own Sum (cambiumref02.Sum): the hash of any text. -/
import Derived.Test.YtglciacjfoimlaaDoorRefQ
import Derived.Test.YtglciacjfoimlaaDoorShaF
namespace Go.Proofs.YtglciacjfoimlaaDoor.Hk
set_option linter.unusedVariables false
open Go.ChangeShapes Go.WideShapes Go.ChangeAt Go.RowKit
open Pk (be be_length u8s u8s_length u8s_set u8s_get)
theorem part_lit (s : St) (x : ByteArray) (hx : x.size = 64) (w : World) :
    Calls Tryd.prog 20 #[.agg #[.int .u32 (vN s.a), .int .u32 (vN s.b), .int .u32 (vN s.c), .int .u32 (vN s.d), .int .u32 (vN s.e), .int .u32 (vN s.f), .int .u32 (vN s.g), .int .u32 (vN s.h)], .string x] w fun e w' => ∃ p : St, p = piece kc s x.data.toList ∧ e = .returned (.agg #[.int .u32 (vN p.a), .int .u32 (vN p.b), .int .u32 (vN p.c), .int .u32 (vN p.d), .int .u32 (vN p.e), .int .u32 (vN p.f), .int .u32 (vN p.g), .int .u32 (vN p.h)]) ∧ Below w.heap.size w w' :=
  (part_any s x hx w).mono fun _ _ h => ⟨_, rfl, h.1, h.2⟩
theorem padded_lit (x : ByteArray) (hx : x.size ≤ 140737488351232) (w : World) :
    Calls Tryd.prog 19 #[.string x] w fun e w' => ∃ P : ByteArray, P.data.toList = x.data.toList ++ padL x.size ∧ e = .returned (.string P) ∧ Below w.heap.size w w' :=
  (padded_any x hx w).mono fun _ _ h => ⟨_, rfl, h.1, h.2⟩
theorem start2 (w : World) : Row (((w.alloc (.cells (u8s (List.replicate 32 0)).toArray 23)).alloc (.cells (arr (List.replicate 8 0#32)) 42)).setRow (w.heap.size + 1) (stV first)) (w.heap.size + 1) 42 first.list ∧ (((w.alloc (.cells (u8s (List.replicate 32 0)).toArray 23)).alloc (.cells (arr (List.replicate 8 0#32)) 42)).setRow (w.heap.size + 1) (stV first)).heap[w.heap.size]? = some (.cells (u8s (List.replicate 32 0)).toArray 23 (0, 0)) ∧ Below w.heap.size w (((w.alloc (.cells (u8s (List.replicate 32 0)).toArray 23)).alloc (.cells (arr (List.replicate 8 0#32)) 42)).setRow (w.heap.size + 1) (stV first)) :=
  ⟨setRow_heap ((w.alloc (.cells (u8s (List.replicate 32 0)).toArray 23)).alloc (.cells (arr (List.replicate 8 0#32)) 42)) (w.heap.size + 1) _ (stV first) 42 (0, 0) (heap_alloc2_new w _ _),
   (setRow_other ((w.alloc (.cells (u8s (List.replicate 32 0)).toArray 23)).alloc (.cells (arr (List.replicate 8 0#32)) 42)) (w.heap.size + 1) w.heap.size _ (by omega)).trans (heap_alloc2_old w _ _),
   below_setRow (((Below.refl _ _).alloc (Nat.le_refl _) _).alloc (by simp) _) (by omega) _⟩
theorem pad_div (n : Nat) : n + (9 + padZ n) = 64 * ((n + (9 + padZ n)) / 64) := by unfold padZ; omega
set_option maxRecDepth 100000 in
set_option maxHeartbeats 1000000 in
theorem refsum_any (x : ByteArray) (hx : x.size ≤ 140737488351232) (w : World) :
    Calls Tryd.prog 7 #[.string x] w fun e w' => e = .returned (.agg (u8s (hashB (pieces kc first (x.data.toList ++ padL x.size) ((x.size + (padL x.size).length) / 64)))).toArray) ∧ Below w.heap.size w w' := by
  obtain ⟨N, hN⟩ : ∃ N, N = (x.size + (padL x.size).length) / 64 := ⟨_, rfl⟩
  have hN2 : x.size + (9 + padZ x.size) = 64 * N := by rw [hN, padL_length]; exact pad_div _
  obtain ⟨PL, hPL⟩ : ∃ PL, PL = x.data.toList ++ padL x.size := ⟨_, rfl⟩
  have hlen : PL.length = 64 * N := by rw [hPL, List.length_append, padL_length, ← hN2]; simp
  have HLEN := Lib.hid hlen
  have HNB := Lib.hid (show 64 * N ≤ 140737488351400 by rw [← hN2]; unfold padZ; omega)
  rw [← hN, ← hPL]
  have HPL := Lib.hid hPL
  clear hPL hlen hN hN2
  obtain ⟨R0, R1, RB⟩ := start2 w
  have R0 := Lib.hid R0
  have R1 := Lib.hid R1
  have RB := Lib.hid RB
  go_enter Tryd.func7, Tryd.ntmps7
  go_wp2_with (first
    | (refine wpList_store_row rfl 42 (.tmp 3) (.tmp 6) rfl (w.heap.size + 1) (stV first) (by kernel_rfl) rfl 42 (arr (List.replicate 8 0#32)) (heap_alloc2_new w _ _) info8 rfl (stV_one _) ?_))
  change Calls _ _ _ (((w.alloc (.cells (u8s (List.replicate 32 0)).toArray 23)).alloc (.cells (arr (List.replicate 8 0#32)) 42)).setRow (w.heap.size + 1) (stV first)) _
  generalize (((w.alloc (.cells (u8s (List.replicate 32 0)).toArray 23)).alloc (.cells (arr (List.replicate 8 0#32)) 42)).setRow (w.heap.size + 1) (stV first)) = V at *
  (go_at_call 19; (with_reducible refine (padded_lit x hx _).mono ?_); rintro e w1 ⟨P, hP, rfl, hb1⟩)
  have G0 := Lib.hid (row_below R0.out hb1 R0.out.lt)
  have G1 := Lib.hid (res_below R1.out hb1 (obj_lt R1.out))
  have GB := Lib.hid (RB.out.trans (hb1.mono RB.out.size))
  rw [← HPL.out] at hP
  have HP := Lib.hid hP
  clear hP hb1 R0 R1 RB
  go_wp2
  go_loopw [0] (fun a wr => ∃ S : ByteArray, ∃ j : Nat, j ≤ N ∧ a = .string S ∧ S.data.toList = PL.drop (64 * j) ∧ Row wr (w.heap.size + 1) 42 (pieces kc first PL j).list ∧ wr.heap[w.heap.size]? = some (.cells (u8s (List.replicate 32 0)).toArray 23 (0, 0)) ∧ Below w.heap.size w wr) (fun a _ => strLen a)
  case atStart => exact ⟨P, 0, Nat.zero_le _, rfl, HP.out, G0.out, G1.out, GB.out⟩
  case round =>
    obtain ⟨S, j, hj, rfl, hS, r0, r1, hbel⟩ := hrel
    have hsz : S.size = 64 * N - 64 * j := by rw [len_of hS, List.length_drop, HLEN.out]
    have HS := Lib.hid hS
    clear hS
    obtain ⟨q, hq⟩ : ∃ q, q = pieces kc first PL j := ⟨_, rfl⟩
    rw [← hq] at r0
    have HQ := Lib.hid hq
    clear hq
    by_cases hlt : j < N
    · have s1 : 64 ≤ S.size := by omega
      have s2 : (0 : Int) < S.size := by omega
      have s3 : (64 : Int) ≤ S.size := by omega
      have s4 : S.size ≤ 140737488351400 := by have := HNB.out; omega
      have C := r0.eight
      unfold Eight at C
      have hB := r0.lt
      have hB0 := obj_lt r1
      have HSZ := Lib.hid (show (S.extract 0 64).size = 64 by rw [ByteArray.size_extract]; omega)
      have RD0 := Lib.hid (show Row wr.drew (w.heap.size + 1) 42 q.list from r0)
      have RD1 := Lib.hid (show wr.drew.heap[w.heap.size]? = some (.cells (u8s (List.replicate 32 0)).toArray 23 (0, 0)) from r1)
      have hbd : Below w.heap.size w wr.drew := hbel.drew
      have HSS := Lib.hid hsz
      clear hsz r0 r1
      go_wp2
      go_region_with ((go_at_call 20; (with_reducible refine (part_lit q _ HSZ.out _).mono ?_); rintro e w5 ⟨p, hp, rfl, hb5⟩; have HPC := Lib.hid hp; clear hp; have E5 := row_below RD0.out hb5 hB; have F5 := Lib.hid (res_below RD1.out hb5 hB0); have B5 := Lib.hid (hbd.trans (hb5.mono hbd.size)); have C5 := E5.eight; unfold Eight at C5; have G5 := Lib.hid E5; have fr := E5.free; clear E5))
      all_goals
        go_wp2
        go_roundw
        case rel =>
          have ne : w.heap.size ≠ w.heap.size + 1 := by omega
          have le : w.heap.size ≤ w.heap.size + 1 := by omega
          have oth : ∀ (V : World) (j : Nat) (v : Value), V.heap[w.heap.size]? = some (.cells (u8s (List.replicate 32 0)).toArray 23 (0, 0)) → (V.setCell ⟨w.heap.size + 1, j, none⟩ v).heap[w.heap.size]? = some (.cells (u8s (List.replicate 32 0)).toArray 23 (0, 0)) :=
            fun V j v h => (heap_setCell_other V ⟨w.heap.size + 1, j, none⟩ w.heap.size v ne).trans h
          have hp : p = pieces kc first PL (j + 1) := by
            rw [HPC.out, pieces, ← HQ.out, Lib.extract_data, HS.out]
            rfl
          have hrow : Row _ (w.heap.size + 1) 42 p.list := ((((((((G5.out.set 0 p.a).set 1 p.b).set 2 p.c).set 3 p.d).set 4 p.e).set 5 p.f).set 6 p.g).set 7 p.h)
          refine ⟨_, j + 1, by omega, rfl, ?_, ?_, (oth _ _ _ (oth _ _ _ (oth _ _ _ (oth _ _ _ (oth _ _ _ (oth _ _ _ (oth _ _ _ (oth _ _ _ F5.out)))))))), ((((((((B5.out.setCell (p := ⟨w.heap.size + 1, 0, none⟩) le _).setCell (p := ⟨w.heap.size + 1, 1, none⟩) le _).setCell (p := ⟨w.heap.size + 1, 2, none⟩) le _).setCell (p := ⟨w.heap.size + 1, 3, none⟩) le _).setCell (p := ⟨w.heap.size + 1, 4, none⟩) le _).setCell (p := ⟨w.heap.size + 1, 5, none⟩) le _).setCell (p := ⟨w.heap.size + 1, 6, none⟩) le _).setCell (p := ⟨w.heap.size + 1, 7, none⟩) le _)⟩
          · rw [Lib.extract_data, HS.out, List.take_of_length_le (by rw [List.length_drop, List.length_drop, HLEN.out]; have := HSS.out; omega), List.drop_drop, show 64 * (j + 1) = 64 * j + 64 by omega]
          · rw [← hp]; exact hrow
        case measure =>
          show (S.extract 64 S.size).size < S.size
          rw [ByteArray.size_extract]
          omega
    · obtain rfl : j = N := by omega
      have s2 : S.size = 0 := by omega
      have s3 : ¬ (0 : Int) < (S.size : Int) := by omega
      obtain ⟨wo, rfl⟩ : ∃ wo : World, wo = wr := ⟨_, rfl⟩
      have hB := r0.lt
      have hB0 := obj_lt r1
      have W0 := Lib.hid (show Row (wo.alloc (.cells (u8s (List.replicate 32 0)).toArray 23)) (w.heap.size + 1) 42 q.list from (Below.heap_alloc wo _ _ hB).trans r0)
      have W1 := Lib.hid (show (wo.alloc (.cells (u8s (List.replicate 32 0)).toArray 23)).heap[w.heap.size]? = some (.cells (u8s (List.replicate 32 0)).toArray 23 (0, 0)) from (Below.heap_alloc wo _ _ hB0).trans r1)
      have W2 := Lib.hid (show (wo.alloc (.cells (u8s (List.replicate 32 0)).toArray 23)).heap[wo.heap.size]? = some (.cells (u8s (List.replicate 32 0)).toArray 23 (0, 0)) from heap_alloc_new wo _)
      have WB := Lib.hid (show Below w.heap.size w (wo.alloc (.cells (u8s (List.replicate 32 0)).toArray 23)) from hbel.alloc hbel.size _)
      have WN := Lib.hid (show w.heap.size + 1 ≠ wo.heap.size ∧ w.heap.size ≠ wo.heap.size ∧ w.heap.size ≤ wo.heap.size from ⟨by omega, by omega, by omega⟩)
      clear r0 r1 hbel hsz hB hB0 G0 G1 GB
      go_wp2
      change Code.wp _ _ _ _ (wo.alloc (.cells (u8s (List.replicate 32 0)).toArray 23))
      generalize (wo.alloc (.cells (u8s (List.replicate 32 0)).toArray 23)) = V2 at *
      generalize wo.heap.size = b4 at *
      go_loopw [18] (fun v wr => ∃ i : Nat, i ≤ 32 ∧ v = .int .i64 i ∧ Row wr (w.heap.size + 1) 42 q.list ∧ wr.heap[w.heap.size]? = some (.cells (u8s (List.replicate 32 0)).toArray 23 (0, 0)) ∧ wr.heap[b4]? = some (.cells (u8s (hbs q i)).toArray 23 (0, 0)) ∧ Below w.heap.size w wr) (fun v _ => 32 - (intOf v).toNat)
      case atStart => exact ⟨0, Nat.zero_le _, rfl, W0.out, W1.out, W2.out, WB.out⟩
      case round =>
        obtain ⟨i, hi, rfl, r0, r1, r2, hbel⟩ := hrel
        by_cases hlt : i < 32
        · obtain ⟨x, hx⟩ : ∃ x, q.list[i / 4]? = some x := ⟨_, List.getElem?_eq_getElem (by show i / 4 < 8; omega)⟩
          have c0 := r0.cell hx
          have hlen := hbs_length q i hi
          have hcell : wr.cell? ⟨b4, i, none⟩ = some (.int .u8 (((hbs q i)[i]'(by omega)).toNat : Int)) := by
            rw [cell_of_row wr b4 i _ 23 (0, 0) r2]
            simpa using u8s_get (hbs q i) i (by omega)
          have hfr : wr.frozen? ⟨b4, i, none⟩ = false := frozen_of_row wr b4 i _ 23 r2
          have ev := hb_val q i x hx
          have hst := heap_setCell_same wr b4 i _ 23 (.int .u8 ((hb q i).toNat : Int)) r2
          rw [List.setIfInBounds_toArray, u8s_set, hbs_set q i hlt] at hst
          have hq0 := r0.other b4 i (.int .u8 ((hb q i).toNat : Int)) WN.out.1
          have hq1 := (heap_setCell_other wr ⟨b4, i, none⟩ w.heap.size (.int .u8 ((hb q i).toNat : Int)) WN.out.2.1).trans r1
          rw [ev] at hst hq0 hq1
          have HST := Lib.hid hst
          have Q0 := Lib.hid hq0
          have Q1 := Lib.hid hq1
          have x0 := vN_lo x
          have x1 := vN_hi x
          have d0 : (0 : Int) ≤ (i : Int) / 4 := by omega
          have d1 : (i : Int) / 4 < 8 := by omega
          generalize ((hbs q i)[i]'(by omega)) = y at hcell
          clear hst hq0 hq1 ev hlen r0 r1 r2 hx
          go_wp2
          go_roundw
          case rel =>
            exact ⟨i + 1, by omega, by go_num, Q0.out, Q1.out, HST.out, hbel.setCell (p := ⟨b4, i, none⟩) WN.out.2.2 _⟩
          case measure => simp [intOf]; omega
        · obtain rfl : i = 32 := by omega
          rw [hbs_all] at r2
          obtain ⟨C, hC⟩ : ∃ C, C = (u8s (hashB q)).toArray := ⟨_, rfl⟩
          obtain ⟨C0, hC0⟩ : ∃ C, C = (u8s (List.replicate 32 0)).toArray := ⟨_, rfl⟩
          have hI := (thirtytwo hC).1
          have hO := (thirtytwo hC).2.2
          have hz : C0.size = C.size := by rw [hC0]; exact (thirtytwo hC).2.1
          rw [← hC] at r2
          rw [← hC0] at r1
          have HC := Lib.hid hC
          have R1 := Lib.hid r1
          have R2 := Lib.hid r2
          have I := Lib.hid hI
          have O := Lib.hid hO
          have Z := Lib.hid hz
          clear hC hC0 hI hO hz r0 r1 r2
          go_wp2_with (first
            | (refine wpList_load_row rfl 23 (.tmp 4) rfl b4 rfl 23 C (0, 0) _ R2.out Tryd.underlying23 rfl I.out ?_)
            | (refine wpList_store_row rfl 23 (.tmp 2) (.tmp 35) rfl w.heap.size C rfl rfl 23 C0 R1.out I.out Z.out O.out ?_))
          have hg2 := setRow_heap wr w.heap.size C0 C 23 (0, 0) R1.out
          exact bodyPost_ret (v := .agg C) (results_cell_row rfl _ _ w.heap.size 23 C (0, 0) _ rfl hg2 Tryd.underlying23 rfl I.out) rfl ⟨by rw [HC.out, HQ.out], below_setRow hbel (Nat.le_refl _) C⟩
end Go.Proofs.YtglciacjfoimlaaDoor.Hk
