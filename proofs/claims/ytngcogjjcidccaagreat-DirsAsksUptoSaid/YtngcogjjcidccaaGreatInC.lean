/- The document's own answers about inodes. -/
import Derived.Test.YtngcogjjcidccaaGreatInB
namespace Go.Proofs.YtngcogjjcidccaaGreat.Ino
set_option linter.unusedVariables false
set_option linter.unusedSimpArgs false
open Go.ChangeShapes Go.WideShapes Go.ChangeAt Go.RowKit
open Rg
open Pk (be num be_length num_be num_lt bs bs_size nB nE tN tR tE uN uOk uT uR uE xB xE ref_bytes ref_take_any ref_text_any ref_taketext_any xB_size)
open Ph (has has_take has_iff byte_ne byte_eq tl tl_len nb)
set_option maxHeartbeats 1000000 in
theorem refTarget_in (s : ByteArray) (hs : s.size ≤ maxLen) (w : World) :
    Calls Tryz.prog 68 #[.string s] w fun e w' => e = .returned (.bool (tgt s)) ∧ w = w' := by
  unfold maxLen at hs
  have HQ := Lib.hid (show tgt s = (decide (1 ≤ s.size) && decide (s.size ≤ 64) && !has s 0) from rfl)
  go_enter Tryz.func68, Tryz.ntmps68
  go_wp2
  go_loop [3] (fun v => ∃ i : Nat, i ≤ s.size ∧ v = .int .i64 i ∧ Hid ((s.data.toList.take i).contains 0 = false)) (fun v => s.size - (intOf v).toNat)
  case atStart => exact ⟨0, Nat.zero_le _, rfl, Lib.hid rfl⟩
  case round =>
    obtain ⟨i, hi, rfl, HI⟩ := hrel
    by_cases hlt : i < s.size
    · have h0 := has_take (c := 0) hlt
      rw [Hid.out HI, Bool.false_or] at h0
      cases b0 : (s[i] == 0)
      · have c0 : ((s[i].toNat : Int) == 0) = false := byte_ne b0
        have HI2 := Lib.hid (h0.trans b0)
        clear h0 b0 HI
        go_wp2
        go_round
        case rel => exact ⟨i + 1, by omega, by go_num, HI2⟩
        case measure => simp [intOf]; omega
      · have c0 : ((s[i].toNat : Int) == 0) = true := byte_eq b0
        have HN := Lib.hid (show tgt s = false by
          have hm : has s 0 = true := by
            rw [has_iff]
            have := h0.trans b0
            rw [List.contains_iff_mem] at this
            exact List.mem_of_mem_take this
          rw [HQ.out, hm]; simp)
        clear h0 b0 HI
        go_wp2
        go_ret
        exact ⟨by rw [HN.out]; rfl, rfl⟩
    · obtain rfl : i = s.size := by omega
      rw [List.take_of_length_le (by simp)] at HI
      have hq := HQ.out
      rw [show has s 0 = false from Hid.out HI] at hq
      clear HI HQ
      by_cases h1 : s.size = 0
      · obtain ⟨e1, e2⟩ := emp_of (decide_eq_true h1)
        have e3 := emp_yes h1
        have HN := Lib.hid (show tgt s = false by rw [hq, decide_eq_false (by omega)]; rfl)
        clear hq h1
        go_wp2
        go_ret
        exact ⟨by rw [HN.out]; rfl, rfl⟩
      · obtain ⟨e1, e2⟩ := emp_of (decide_eq_false h1)
        have e3 := emp_no h1
        by_cases h2 : s.size ≤ 64
        · have d : decide ((s.size : Int) ≤ 64) = true := by simp; omega
          have HN := Lib.hid (show tgt s = true by rw [hq, decide_eq_true (by omega), decide_eq_true h2]; rfl)
          clear hq h1
          go_wp2
          go_ret
          exact ⟨by rw [HN.out]; rfl, rfl⟩
        · have d : decide ((s.size : Int) ≤ 64) = false := by simp; omega
          have HN := Lib.hid (show tgt s = false by rw [hq, decide_eq_false h2]; simp)
          clear hq h1
          go_wp2
          go_ret
          exact ⟨by rw [HN.out]; rfl, rfl⟩
set_option maxRecDepth 100000 in
set_option maxHeartbeats 2000000 in
theorem refCheck_in (n : In) (hl : n.lim) (hT : n.T.size ≤ maxLen) (w : World) :
    Calls Tryz.prog 50 #[vI n] w fun e w' => e = .returned (.int .i64 (chI n)) ∧ Below w.heap.size w w' := by
  obtain ⟨K, M, L, S, T⟩ := n
  obtain ⟨l1, l2, l3, l4⟩ := hl
  dsimp only at l1 l2 l3 l4 hT
  unfold vI
  dsimp only
  cases k1 : decide (K = 1)
  · have K1 := eqz1 k1
    have k1' := of_decide_eq_false k1
    cases k2 : decide (K = 2)
    · have K2 := eqz2 k2
      have k2' := of_decide_eq_false k2
      cases k3 : decide (K = 3)
      · have K3 := eqz3 k3
        have k3' := of_decide_eq_false k3
        have hq : okI ⟨K, M, L, S, T⟩ = false := by unfold okI; dsimp only; rw [if_neg k1', if_neg k2', if_neg k3']
        have HQ := Lib.hid (chI_no (n := ⟨K, M, L, S, T⟩) (by rw [hq])).1
        clear hq k1 k2 k3 k1' k2' k3'
        go_enter Tryz.func50, Tryz.ntmps50
        go_wp2
        go_ret
        exact ⟨by rw [HQ.out]; rfl, (Below.refl _ _).alloc (Nat.le_refl _) _⟩
      · have K3 := eqz3 k3
        have k3' := of_decide_eq_true k3
        have hq : okI ⟨K, M, L, S, T⟩ = (decide (1 ≤ L) && tgt T && decide (S = T.size)) := by unfold okI; dsimp only; rw [if_neg k1', if_neg k2', if_pos k3']
        clear k1 k2 k3 k1' k2' k3'
        have HC := Lib.hid (refTarget_in T hT)
        cases a1 : decide (1 ≤ L)
        · have A1 := lez1 a1
          rw [a1] at hq
          have HQ := Lib.hid (chI_no (n := ⟨K, M, L, S, T⟩) (by rw [hq]; rfl)).1
          clear hq a1
          go_enter Tryz.func50, Tryz.ntmps50
          go_wp2
          go_ret
          exact ⟨by rw [HQ.out]; rfl, (Below.refl _ _).alloc (Nat.le_refl _) _⟩
        · have A1 := lez1 a1
          rw [a1] at hq
          cases a2 : tgt T
          · rw [a2] at hq HC
            have HQ := Lib.hid (chI_no (n := ⟨K, M, L, S, T⟩) (by rw [hq]; rfl)).1
            clear hq a1 a2
            go_enter Tryz.func50, Tryz.ntmps50
            go_wp2_with (go_at_call 68; refine (HC.out _).mono ?_; rintro e w' ⟨rfl, rfl⟩)
            go_ret
            exact ⟨by rw [HQ.out]; rfl, (Below.refl _ _).alloc (Nat.le_refl _) _⟩
          · rw [a2] at hq HC
            have hT2 := (tgt_size a2).2
            have hu := u32_id (n := T.size) (by omega)
            cases a3 : decide (S = T.size)
            · have A3 := eqz a3
              rw [a3] at hq
              have HQ := Lib.hid (chI_no (n := ⟨K, M, L, S, T⟩) (by rw [hq]; rfl)).1
              clear hq a1 a2 a3
              go_enter Tryz.func50, Tryz.ntmps50
              go_wp2_with (go_at_call 68; refine (HC.out _).mono ?_; rintro e w' ⟨rfl, rfl⟩)
              go_ret
              exact ⟨by rw [HQ.out]; rfl, (Below.refl _ _).alloc (Nat.le_refl _) _⟩
            · have A3 := eqz a3
              rw [a3] at hq
              have HQ := Lib.hid (chI_yes (n := ⟨K, M, L, S, T⟩) (by rw [hq]; rfl)).1
              clear hq a1 a2 a3
              go_enter Tryz.func50, Tryz.ntmps50
              go_wp2_with (go_at_call 68; refine (HC.out _).mono ?_; rintro e w' ⟨rfl, rfl⟩)
              go_ret
              exact ⟨by rw [HQ.out]; rfl, (Below.refl _ _).alloc (Nat.le_refl _) _⟩
    · have K2 := eqz2 k2
      have k2' := of_decide_eq_true k2
      have hq : okI ⟨K, M, L, S, T⟩ = (decide (1 ≤ L) && decide (S ≤ 65536) && decide (T.size = 0)) := by unfold okI; dsimp only; rw [if_neg k1', if_pos k2']
      clear k1 k2 k1' k2'
      cases a1 : decide (1 ≤ L)
      · have A1 := lez1 a1
        rw [a1] at hq
        have HQ := Lib.hid (chI_no (n := ⟨K, M, L, S, T⟩) (by rw [hq]; rfl)).1
        clear hq a1
        go_enter Tryz.func50, Tryz.ntmps50
        go_wp2
        go_ret
        exact ⟨by rw [HQ.out]; rfl, (Below.refl _ _).alloc (Nat.le_refl _) _⟩
      · have A1 := lez1 a1
        rw [a1] at hq
        cases a2 : decide (S ≤ 65536)
        · have A2 := lezM a2
          rw [a2] at hq
          have HQ := Lib.hid (chI_no (n := ⟨K, M, L, S, T⟩) (by rw [hq]; rfl)).1
          clear hq a1 a2
          go_enter Tryz.func50, Tryz.ntmps50
          go_wp2
          go_ret
          exact ⟨by rw [HQ.out]; rfl, (Below.refl _ _).alloc (Nat.le_refl _) _⟩
        · have A2 := lezM a2
          rw [a2] at hq
          cases a3 : decide (T.size = 0)
          · obtain ⟨A3, A4⟩ := emp_of a3
            have A5 := emp_no (of_decide_eq_false a3)
            rw [a3] at hq
            have HQ := Lib.hid (chI_no (n := ⟨K, M, L, S, T⟩) (by rw [hq]; rfl)).1
            clear hq a1 a2 a3
            go_enter Tryz.func50, Tryz.ntmps50
            go_wp2
            go_ret
            exact ⟨by rw [HQ.out]; rfl, (Below.refl _ _).alloc (Nat.le_refl _) _⟩
          · obtain ⟨A3, A4⟩ := emp_of a3
            have A5 := emp_yes (of_decide_eq_true a3)
            rw [a3] at hq
            have HQ := Lib.hid (chI_yes (n := ⟨K, M, L, S, T⟩) (by rw [hq]; rfl)).1
            clear hq a1 a2 a3
            go_enter Tryz.func50, Tryz.ntmps50
            go_wp2
            go_ret
            exact ⟨by rw [HQ.out]; rfl, (Below.refl _ _).alloc (Nat.le_refl _) _⟩
  · have K1 := eqz1 k1
    have k1' := of_decide_eq_true k1
    have hq : okI ⟨K, M, L, S, T⟩ = (decide (L = 1) && decide (S = 0) && decide (T.size = 0)) := by unfold okI; dsimp only; rw [if_pos k1']
    clear k1 k1'
    cases a1 : decide (L = 1)
    · have A1 := eqz1 a1
      rw [a1] at hq
      have HQ := Lib.hid (chI_no (n := ⟨K, M, L, S, T⟩) (by rw [hq]; rfl)).1
      clear hq a1
      go_enter Tryz.func50, Tryz.ntmps50
      go_wp2
      go_ret
      exact ⟨by rw [HQ.out]; rfl, (Below.refl _ _).alloc (Nat.le_refl _) _⟩
    · have A1 := eqz1 a1
      rw [a1] at hq
      cases a2 : decide (S = 0)
      · have A2 := eqz0 a2
        rw [a2] at hq
        have HQ := Lib.hid (chI_no (n := ⟨K, M, L, S, T⟩) (by rw [hq]; rfl)).1
        clear hq a1 a2
        go_enter Tryz.func50, Tryz.ntmps50
        go_wp2
        go_ret
        exact ⟨by rw [HQ.out]; rfl, (Below.refl _ _).alloc (Nat.le_refl _) _⟩
      · have A2 := eqz0 a2
        rw [a2] at hq
        cases a3 : decide (T.size = 0)
        · obtain ⟨A3, A4⟩ := emp_of a3
          have A5 := emp_no (of_decide_eq_false a3)
          rw [a3] at hq
          have HQ := Lib.hid (chI_no (n := ⟨K, M, L, S, T⟩) (by rw [hq]; rfl)).1
          clear hq a1 a2 a3
          go_enter Tryz.func50, Tryz.ntmps50
          go_wp2
          go_ret
          exact ⟨by rw [HQ.out]; rfl, (Below.refl _ _).alloc (Nat.le_refl _) _⟩
        · obtain ⟨A3, A4⟩ := emp_of a3
          have A5 := emp_yes (of_decide_eq_true a3)
          rw [a3] at hq
          have HQ := Lib.hid (chI_yes (n := ⟨K, M, L, S, T⟩) (by rw [hq]; rfl)).1
          clear hq a1 a2 a3
          go_enter Tryz.func50, Tryz.ntmps50
          go_wp2
          go_ret
          exact ⟨by rw [HQ.out]; rfl, (Below.refl _ _).alloc (Nat.le_refl _) _⟩
set_option maxRecDepth 100000 in
set_option maxHeartbeats 2000000 in
theorem refEncode_in (n : In) (hl : n.lim) (hT : n.T.size ≤ maxLen) (w : World) :
    Calls Tryz.prog 34 #[vI n] w fun e w' => e = .returned (.tuple #[.string (enI n), .int .i64 (chI n)]) ∧ Below w.heap.size w w' := by
  obtain ⟨K, M, L, S, T⟩ := n
  have HC := Lib.hid (refCheck_in ⟨K, M, L, S, T⟩ hl hT)
  obtain ⟨l1, l2, l3, l4⟩ := hl
  dsimp only at l1 l2 l3 l4 hT
  have C0 := box_cell w #[.int .u8 K, .int .u16 M, .int .u32 L, .int .u32 S, .string T] 31 0 rfl
  have C1 := box_cell w #[.int .u8 K, .int .u16 M, .int .u32 L, .int .u32 S, .string T] 31 1 rfl
  have C2 := box_cell w #[.int .u8 K, .int .u16 M, .int .u32 L, .int .u32 S, .string T] 31 2 rfl
  have C3 := box_cell w #[.int .u8 K, .int .u16 M, .int .u32 L, .int .u32 S, .string T] 31 3 rfl
  have C4 := box_cell w #[.int .u8 K, .int .u16 M, .int .u32 L, .int .u32 S, .string T] 31 4 rfl
  have B0 := Lib.hid ((Below.refl w.heap.size w).alloc (Nat.le_refl _) (.cells #[.int .u8 K, .int .u16 M, .int .u32 L, .int .u32 S, .string T] 31))
  have hsz : (w.alloc (.cells #[.int .u8 K, .int .u16 M, .int .u32 L, .int .u32 S, .string T] 31)).heap.size = w.heap.size + 1 := by simp
  have HZ := Lib.hid hsz
  clear hsz
  unfold vI
  dsimp only
  go_enter Tryz.func34, Tryz.ntmps34
  go_wp2_with fail
  change Calls _ _ _ (w.alloc (.cells #[.int .u8 K, .int .u16 M, .int .u32 L, .int .u32 S, .string T] 31)) _
  obtain ⟨b0, hb0⟩ : ∃ b, w.heap.size = b := ⟨_, rfl⟩
  have HB0 := Lib.hid hb0
  rw [hb0] at C0 C1 C2 C3 C4 B0 HZ ⊢
  clear hb0
  generalize w.alloc (.cells #[.int .u8 K, .int .u16 M, .int .u32 L, .int .u32 S, .string T] 31) = W at *
  refine (HC.out W).mono ?_
  rintro e w1 ⟨rfl, hb⟩
  have hbl0 : b0 < W.heap.size := by rw [HZ.out]; omega
  have D0 := (Below.cell hb (p := ⟨b0, 0, none⟩) hbl0).trans C0
  have D1 := (Below.cell hb (p := ⟨b0, 1, none⟩) hbl0).trans C1
  have D2 := (Below.cell hb (p := ⟨b0, 2, none⟩) hbl0).trans C2
  have D3 := (Below.cell hb (p := ⟨b0, 3, none⟩) hbl0).trans C3
  have D4 := (Below.cell hb (p := ⟨b0, 4, none⟩) hbl0).trans C4
  have hbl1 : b0 < w1.heap.size := by have := hb.size; omega
  have B1 := Lib.hid (B0.out.trans (hb.mono (by rw [HZ.out]; omega)))
  clear C0 C1 C2 C3 C4 hb B0 HZ HC
  cases hq : okI ⟨K, M, L, S, T⟩
  · have HQ := Lib.hid (chI_no hq)
    rw [HQ.out.1]
    clear hq
    go_wp2
    go_ret2
    exact ⟨by rw [HQ.out.1, HQ.out.2]; rfl, by rw [HB0.out]; exact B1.out⟩
  · have HQ := Lib.hid (chI_yes hq)
    have ht : T.size ≤ 64 := (okI_size hq).1
    have HX := Lib.hid (xB_size (t := T) (by omega))
    rw [HQ.out.1]
    clear hq
    go_wp2_with fail
    refine (ref_text_any T w1).mono ?_
    rintro e w2 ⟨rfl, hb⟩
    have E0 := (Below.cell hb (p := ⟨b0, 0, none⟩) hbl1).trans D0
    have E1 := (Below.cell hb (p := ⟨b0, 1, none⟩) hbl1).trans D1
    have E2 := (Below.cell hb (p := ⟨b0, 2, none⟩) hbl1).trans D2
    have E3 := (Below.cell hb (p := ⟨b0, 3, none⟩) hbl1).trans D3
    have hbl : b0 < w2.heap.size := by have := hb.size; omega
    have B2 := Lib.hid (B1.out.trans (hb.mono (Nat.le_of_lt hbl1)))
    clear D0 D1 D2 D3 D4 hb B1
    have HW := Lib.hid (show wrI ⟨K, M, L, S, T⟩ = bs (be 1 K) ++ bs (be 2 M) ++ bs (be 4 L) ++ bs (be 4 S) ++ xB T from rfl)
    obtain ⟨t, htt⟩ : ∃ t, xB T = t := ⟨_, rfl⟩
    rw [htt] at HX HW ⊢
    have hts : t.size ≤ 66 := by have := HX.out; omega
    clear htt
    have z1 : (bs (be 1 K)).size = 1 := by rw [bs_size, be_length]
    have z2 : (bs (be 2 M)).size = 2 := by rw [bs_size, be_length]
    have z3 : (bs (be 4 L)).size = 4 := by rw [bs_size, be_length]
    have z4 : (bs (be 4 S)).size = 4 := by rw [bs_size, be_length]
    go_wp2_with fail
    refine wp_region_G (fun w' => Below w2.heap.size w2 w') (by kernel_rfl) (by kernel_rfl) (Below.refl _ _).drew ?_
    refine wpG_val (.pointer (some ⟨b0, 0, none⟩)) rfl (by rfl) (fun w' hSw => by go_simp) ?_
    simp only [List.setIfInBounds_toArray, List.set_cons_zero, List.set_cons_succ]
    refine wpG_val (.int .u8 K) rfl (by rfl) (fun w' hSw => by have c := (Below.cell hSw (p := ⟨b0, 0, none⟩) hbl).trans E0; go_simp) ?_
    simp only [List.setIfInBounds_toArray, List.set_cons_zero, List.set_cons_succ]
    refine wpG_val (.int .u64 K) rfl (by rfl) (fun w' hSw => by have u := u64_id (n := K) (by omega); go_simp) ?_
    simp only [List.setIfInBounds_toArray, List.set_cons_zero, List.set_cons_succ]
    refine wpG_call (.string (bs (be 1 K))) 49 #[.int .u64 K, .int .i64 1] rfl (by rfl) (fun w' => by go_simp) (fun w' hSw => (ref_bytes K 1 w' (by omega) (by omega)).mono fun e w2 h => ⟨h.1, hSw.trans (h.2.mono hSw.size)⟩) ?_
    simp only [List.setIfInBounds_toArray, List.set_cons_zero, List.set_cons_succ]
    refine wpG_val (.pointer (some ⟨b0, 1, none⟩)) rfl (by rfl) (fun w' hSw => by go_simp) ?_
    simp only [List.setIfInBounds_toArray, List.set_cons_zero, List.set_cons_succ]
    refine wpG_val (.int .u16 M) rfl (by rfl) (fun w' hSw => by have c := (Below.cell hSw (p := ⟨b0, 1, none⟩) hbl).trans E1; go_simp) ?_
    simp only [List.setIfInBounds_toArray, List.set_cons_zero, List.set_cons_succ]
    refine wpG_val (.int .u64 M) rfl (by rfl) (fun w' hSw => by have u := u64_id (n := M) (by omega); go_simp) ?_
    simp only [List.setIfInBounds_toArray, List.set_cons_zero, List.set_cons_succ]
    refine wpG_call (.string (bs (be 2 M))) 49 #[.int .u64 M, .int .i64 2] rfl (by rfl) (fun w' => by go_simp) (fun w' hSw => (ref_bytes M 2 w' (by omega) (by omega)).mono fun e w2 h => ⟨h.1, hSw.trans (h.2.mono hSw.size)⟩) ?_
    simp only [List.setIfInBounds_toArray, List.set_cons_zero, List.set_cons_succ]
    refine wpG_val (.string (bs (be 1 K) ++ bs (be 2 M))) rfl (by rfl) (fun w' hSw => by go_simp) ?_
    simp only [List.setIfInBounds_toArray, List.set_cons_zero, List.set_cons_succ]
    refine wpG_val (.pointer (some ⟨b0, 2, none⟩)) rfl (by rfl) (fun w' hSw => by go_simp) ?_
    simp only [List.setIfInBounds_toArray, List.set_cons_zero, List.set_cons_succ]
    refine wpG_val (.int .u32 L) rfl (by rfl) (fun w' hSw => by have c := (Below.cell hSw (p := ⟨b0, 2, none⟩) hbl).trans E2; go_simp) ?_
    simp only [List.setIfInBounds_toArray, List.set_cons_zero, List.set_cons_succ]
    refine wpG_val (.int .u64 L) rfl (by rfl) (fun w' hSw => by have u := u64_id (n := L) (by omega); go_simp) ?_
    simp only [List.setIfInBounds_toArray, List.set_cons_zero, List.set_cons_succ]
    refine wpG_call (.string (bs (be 4 L))) 49 #[.int .u64 L, .int .i64 4] rfl (by rfl) (fun w' => by go_simp) (fun w' hSw => (ref_bytes L 4 w' (by omega) (by omega)).mono fun e w2 h => ⟨h.1, hSw.trans (h.2.mono hSw.size)⟩) ?_
    simp only [List.setIfInBounds_toArray, List.set_cons_zero, List.set_cons_succ]
    refine wpG_val (.string (bs (be 1 K) ++ bs (be 2 M) ++ bs (be 4 L))) rfl (by rfl) (fun w' hSw => by go_simp) ?_
    simp only [List.setIfInBounds_toArray, List.set_cons_zero, List.set_cons_succ]
    refine wpG_val (.pointer (some ⟨b0, 3, none⟩)) rfl (by rfl) (fun w' hSw => by go_simp) ?_
    simp only [List.setIfInBounds_toArray, List.set_cons_zero, List.set_cons_succ]
    refine wpG_val (.int .u32 S) rfl (by rfl) (fun w' hSw => by have c := (Below.cell hSw (p := ⟨b0, 3, none⟩) hbl).trans E3; go_simp) ?_
    simp only [List.setIfInBounds_toArray, List.set_cons_zero, List.set_cons_succ]
    refine wpG_val (.int .u64 S) rfl (by rfl) (fun w' hSw => by have u := u64_id (n := S) (by omega); go_simp) ?_
    simp only [List.setIfInBounds_toArray, List.set_cons_zero, List.set_cons_succ]
    refine wpG_call (.string (bs (be 4 S))) 49 #[.int .u64 S, .int .i64 4] rfl (by rfl) (fun w' => by go_simp) (fun w' hSw => (ref_bytes S 4 w' (by omega) (by omega)).mono fun e w2 h => ⟨h.1, hSw.trans (h.2.mono hSw.size)⟩) ?_
    simp only [List.setIfInBounds_toArray, List.set_cons_zero, List.set_cons_succ]
    refine wpG_val (.string (bs (be 1 K) ++ bs (be 2 M) ++ bs (be 4 L) ++ bs (be 4 S))) rfl (by rfl) (fun w' hSw => by go_simp) ?_
    simp only [List.setIfInBounds_toArray, List.set_cons_zero, List.set_cons_succ]
    refine wpG_val (.string t) rfl (by rfl) (fun w' hSw => by go_simp) ?_
    simp only [List.setIfInBounds_toArray, List.set_cons_zero, List.set_cons_succ]
    refine wpG_val (.string (bs (be 1 K) ++ bs (be 2 M) ++ bs (be 4 L) ++ bs (be 4 S) ++ t)) rfl (by rfl) (fun w' hSw => by go_simp <;> omega) ?_
    simp only [List.setIfInBounds_toArray, List.set_cons_zero, List.set_cons_succ]
    refine wpG_val (.string (bs (be 1 K) ++ bs (be 2 M) ++ bs (be 4 L) ++ bs (be 4 S) ++ t)) rfl (by rfl) (fun w' hSw => by go_simp) ?_
    simp only [List.setIfInBounds_toArray, List.set_cons_zero, List.set_cons_succ]
    refine wpG_val (.int .i64 0) rfl (by rfl) (fun w' hSw => by go_simp) ?_
    simp only [List.setIfInBounds_toArray, List.set_cons_zero, List.set_cons_succ]
    refine wpG_nil ?_
    intro wS hSw
    go_wp2
    go_ret2
    exact ⟨by rw [HQ.out.1, HQ.out.2, HW.out]; rfl, by rw [HB0.out]; exact B2.out.trans (hSw.mono (Nat.le_of_lt hbl))⟩
theorem refTakeNat (s : ByteArray) (k m : Nat) (r : ByteArray) (x : Int) (hs : s.size ≤ maxLen) (hk : k ≤ 8) (hm : (tN s (k : Int)).toNat = m) (hr : tR s (k : Int) = r) (hx : tE s (k : Int) = x) (w : World) :
    Calls Tryz.prog 40 #[.string s, .int .i64 k] w fun e w' => e = .returned (.tuple #[.int .u64 (m : Int), .string r, .int .i64 x]) ∧ Below w.heap.size w w' := by
  have h := ref_take_any s k w hs
  rw [tn_nat s k hk, hm, hr, hx] at h
  exact h
theorem cut_cut (s : ByteArray) (a k : Nat) (h1 : 1 ≤ k) (h2 : k ≤ 8) (h : a + k ≤ s.size) : tR (s.extract a s.size) (k : Int) = s.extract (a + k) s.size := by
  have hz : (s.extract a s.size).size = s.size - a := by rw [ByteArray.size_extract]; omega
  rw [tR_of _ k h1 h2 (by omega), ByteArray.extract_extract, hz]
  congr 1
  omega
theorem first_num (s : ByteArray) (h : 0 < s.size) : (tN s ((1 : Nat) : Int)).toNat = s[0].toNat := by
  rw [tN_of s 1 (by omega) (by omega) (by omega), Int.toNat_natCast]
  have e : s.data.toList.take 1 = [s[0]] := by
    have hl : 0 < s.data.toList.length := by simpa using h
    have := List.take_succ_eq_append_getElem hl
    rw [List.take_zero, List.nil_append] at this
    exact this
  rw [e]
  simp [num]
theorem deI_of {s : ByteArray} {n : In} (hn : tkI s = n) (h : 11 ≤ s.size ∧ uE (tR (tR (tR (tR s 1) 2) 4) 4) = 0 ∧ uR (tR (tR (tR (tR s 1) 2) 4) 4) = ByteArray.empty ∧ okI n = true) : deI s = n ∧ deIE s = 0 := by
  have := (ask_same s).2 (by rw [hn]; exact h)
  unfold deI deIE
  rw [if_pos this, if_pos this]
  exact ⟨hn, rfl⟩
theorem deI_no {s : ByteArray} (h : ¬ (11 ≤ s.size ∧ uE (tR (tR (tR (tR s 1) 2) 4) 4) = 0 ∧ uR (tR (tR (tR (tR s 1) 2) 4) 4) = ByteArray.empty ∧ okI (tkI s) = true)) : deI s = zIn ∧ deIE s = 4 := by
  have : ¬ (okI (tkI s) = true ∧ wrI (tkI s) = s) := fun h2 => h ((ask_same s).1 h2)
  unfold deI deIE
  rw [if_neg this, if_neg this]
  exact ⟨rfl, rfl⟩
theorem new_row2 {w1 : World} {g : Nat} {o : Obj} {old cs : Array Value} {t : TypeId} (h : w1.heap[g]? = some o) : ((w1.alloc (.cells old t)).setRow w1.heap.size cs).heap[g]? = some o ∧ ((w1.alloc (.cells old t)).setRow w1.heap.size cs).heap[w1.heap.size]? = some (.cells cs t (0, 0)) ∧ Below w1.heap.size w1 ((w1.alloc (.cells old t)).setRow w1.heap.size cs) ∧ w1.heap.size < ((w1.alloc (.cells old t)).setRow w1.heap.size cs).heap.size := by
  have k := new_row (old := old) (cs := cs) (t := t) h rfl
  refine ⟨k.1, k.2.1, k.2.2, ?_⟩
  rcases Nat.lt_or_ge w1.heap.size ((w1.alloc (.cells old t)).setRow w1.heap.size cs).heap.size with h' | h'
  · exact h'
  · have := k.2.1; rw [Array.getElem?_eq_none h'] at this; cases this
set_option maxRecDepth 100000 in
set_option maxHeartbeats 4000000 in
theorem refDecode_in (s : ByteArray) (hs : s.size ≤ maxLen) (w : World) :
    Calls Tryz.prog 38 #[.string s] w fun e w' => e = .returned (.tuple #[vI (deI s), .int .i64 (deIE s)]) ∧ Below w.heap.size w w' := by
  have R0 := Lib.hid (heap_alloc_new w (.cells #[.int .u8 0, .int .u16 0, .int .u32 0, .int .u32 0, .string ⟨#[]⟩] 31))
  have B0 := Lib.hid ((Below.refl w.heap.size w).alloc (Nat.le_refl _) (.cells #[.int .u8 0, .int .u16 0, .int .u32 0, .int .u32 0, .string ⟨#[]⟩] 31))
  have hsz : w.heap.size < (w.alloc (.cells #[.int .u8 0, .int .u16 0, .int .u32 0, .int .u32 0, .string ⟨#[]⟩] 31)).heap.size := by simp
  by_cases h11 : 11 ≤ s.size
  · have d11 : decide ((s.size : Int) < 11) = false := by simp; omega
    have hlim := tkI_lim s
    obtain ⟨r1, h1⟩ : ∃ r, tR s ((1 : Nat) : Int) = r := ⟨_, rfl⟩
    have e1 : s.extract 1 s.size = r1 := by rw [← h1, tR_of s 1 (by omega) (by omega) (by omega)]
    obtain ⟨r2, h2⟩ : ∃ r, tR r1 ((2 : Nat) : Int) = r := ⟨_, rfl⟩
    have e3 : s.extract 3 s.size = r2 := by rw [← h2, ← e1, cut_cut s 1 2 (by omega) (by omega) (by omega)]
    obtain ⟨r3, h3⟩ : ∃ r, tR r2 ((4 : Nat) : Int) = r := ⟨_, rfl⟩
    have e7 : s.extract 7 s.size = r3 := by rw [← h3, ← e3, cut_cut s 3 4 (by omega) (by omega) (by omega)]
    obtain ⟨r4, h4⟩ : ∃ r, tR r3 ((4 : Nat) : Int) = r := ⟨_, rfl⟩
    have z0 := hs
    have z1 : r1.size ≤ maxLen := by rw [← h1]; exact Nat.le_trans (tR_le _ _) hs
    have z2 : r2.size ≤ maxLen := by rw [← h2]; exact Nat.le_trans (tR_le _ _) z1
    have z3 : r3.size ≤ maxLen := by rw [← h3]; exact Nat.le_trans (tR_le _ _) z2
    have z4 : r4.size ≤ maxLen := by rw [← h4]; exact Nat.le_trans (tR_le _ _) z3
    obtain ⟨K, hK⟩ : ∃ K, (tN s ((1 : Nat) : Int)).toNat = K := ⟨_, rfl⟩
    have k0 : s[0].toNat = K := by rw [← hK, first_num s (by omega)]
    obtain ⟨M, hM⟩ : ∃ K, (tN r1 ((2 : Nat) : Int)).toNat = K := ⟨_, rfl⟩
    obtain ⟨L, hL⟩ : ∃ K, (tN r2 ((4 : Nat) : Int)).toNat = K := ⟨_, rfl⟩
    obtain ⟨S, hS⟩ : ∃ K, (tN r3 ((4 : Nat) : Int)).toNat = K := ⟨_, rfl⟩
    obtain ⟨x1, hx1⟩ : ∃ x, tE r1 ((2 : Nat) : Int) = x := ⟨_, rfl⟩
    obtain ⟨x2, hx2⟩ : ∃ x, tE r2 ((4 : Nat) : Int) = x := ⟨_, rfl⟩
    obtain ⟨x3, hx3⟩ : ∃ x, tE r3 ((4 : Nat) : Int) = x := ⟨_, rfl⟩
    obtain ⟨T, hT⟩ : ∃ r, uT r4 = r := ⟨_, rfl⟩
    obtain ⟨Y, hY⟩ : ∃ r, uR r4 = r := ⟨_, rfl⟩
    obtain ⟨x, hx⟩ : ∃ r, uE r4 = r := ⟨_, rfl⟩
    have hn : tkI s = ⟨K, M, L, S, T⟩ := by subst hK h1 hM h2 hL h3 hS h4 hT; rfl
    have hTz : T.size ≤ maxLen := by
      rw [← hT]
      unfold uT
      split
      · rw [ByteArray.size_extract, ByteArray.size_extract]; omega
      · exact Nat.zero_le _
    have C1 := Lib.hid (refTakeNat r1 2 M r2 x1 z1 (by omega) hM h2 hx1)
    have C2 := Lib.hid (refTakeNat r2 4 L r3 x2 z2 (by omega) hL h3 hx2)
    have C3 := Lib.hid (refTakeNat r3 4 S r4 x3 z3 (by omega) hS h4 hx3)
    have C4 := Lib.hid (fun w => ref_taketext_any r4 w z4)
    rw [hT, hY, hx] at C4
    have h1' : tR s 1 = r1 := h1
    have h2' : tR r1 2 = r2 := h2
    have h3' : tR r2 4 = r3 := h3
    have h4' : tR r3 4 = r4 := h4
    have HY : Hid (x = 0 → Y = ByteArray.empty → okI ⟨K, M, L, S, T⟩ = true → deI s = ⟨K, M, L, S, T⟩ ∧ deIE s = 0) := Lib.hid (fun a b c => deI_of hn (by rw [h1', h2', h3', h4', hx, hY]; exact ⟨h11, a, b, c⟩))
    have HN : Hid (¬ (x = 0 ∧ Y = ByteArray.empty ∧ okI ⟨K, M, L, S, T⟩ = true) → deI s = zIn ∧ deIE s = 4) := Lib.hid (fun a => deI_no (by rw [h1', h2', h3', h4', hx, hY, hn]; exact fun h => a ⟨h.2.1, h.2.2.1, h.2.2.2⟩))
    rw [hn] at hlim
    have CK := Lib.hid (refCheck_in ⟨K, M, L, S, T⟩ hlim hTz)
    have CHY := Lib.hid (@chI_yes ⟨K, M, L, S, T⟩)
    have CHN := Lib.hid (@chI_no ⟨K, M, L, S, T⟩)
    unfold vI at CK
    dsimp only at CK
    obtain ⟨l1, l2, l3, l4⟩ := hlim
    dsimp only at l1 l2 l3 l4
    have U2 := Lib.hid (u16_id l2)
    have U3 := Lib.hid (u32_id l3)
    have U4 := Lib.hid (u32_id l4)
    have K0 := Lib.hid k0
    have E1 := Lib.hid e1
    have E3 := Lib.hid e3
    have E7 := Lib.hid e7
    have hpos : 0 < s.size := by omega
    unfold maxLen at hs
    clear hn hK h1 hM h2 hL h3 hS h4 hT hY hx hx1 hx2 hx3 z0 z1 z2 z3 z4 l1 l2 l3 l4 hTz k0 e1 e3 e7 h1' h2' h3' h4'
    go_enter Tryz.func38, Tryz.ntmps38
    go_wp2_with fail
    change Calls _ _ _ (w.alloc (.cells #[.int .u8 0, .int .u16 0, .int .u32 0, .int .u32 0, .string ⟨#[]⟩] 31)) _
    generalize w.alloc (.cells #[.int .u8 0, .int .u16 0, .int .u32 0, .int .u32 0, .string ⟨#[]⟩] 31) = W at *
    rw [E1.out]
    refine (C1.out _).mono ?_
    rintro e w1 ⟨rfl, hb⟩
    have R1 := Lib.hid (row_bel R0.out hb hsz)
    have B1 := Lib.hid (B0.out.trans (hb.mono B0.out.size))
    replace hsz := Nat.lt_of_lt_of_le hsz hb.size
    clear hb R0 B0 C1
    go_wp2_with fail
    rw [E3.out]
    refine (C2.out _).mono ?_
    rintro e w2 ⟨rfl, hb⟩
    have R2 := Lib.hid (row_bel R1.out hb hsz)
    have B2 := Lib.hid (B1.out.trans (hb.mono B1.out.size))
    replace hsz := Nat.lt_of_lt_of_le hsz hb.size
    clear hb R1 B1 C2
    go_wp2_with fail
    rw [E7.out]
    refine (C3.out _).mono ?_
    rintro e w3 ⟨rfl, hb⟩
    have R3 := Lib.hid (row_bel R2.out hb hsz)
    have B3 := Lib.hid (B2.out.trans (hb.mono B2.out.size))
    replace hsz := Nat.lt_of_lt_of_le hsz hb.size
    clear hb R2 B2 C3
    go_wp2_with fail
    refine (C4.out _).mono ?_
    rintro e w4 ⟨rfl, hb⟩
    have R4 := Lib.hid (row_bel R3.out hb hsz)
    have B4 := Lib.hid (B3.out.trans (hb.mono B3.out.size))
    replace hsz := Nat.lt_of_lt_of_le hsz hb.size
    clear hb R3 B3 C4
    have N1 := Lib.hid (new_row2 (old := #[.int .u8 0, .int .u16 0, .int .u32 0, .int .u32 0, .string ⟨#[]⟩]) (cs := #[.int .u8 K, .int .u16 M, .int .u32 L, .int .u32 S, .string T]) (t := 31) R4.out)
    have u2 := U2.out
    have u3 := U3.out
    have u4 := U4.out
    have kk : ((s[0].toNat : Nat) : Int) = (K : Int) := by rw [K0.out]
    have zz := setRow_heap' (cs := #[.int .u8 0, .int .u16 0, .int .u32 0, .int .u32 0, .string ⟨#[]⟩]) R4.out
    have fin : Hid (∀ (V : World), V.heap[w.heap.size]? = some (.cells #[.int .u8 0, .int .u16 0, .int .u32 0, .int .u32 0, .string ⟨#[]⟩] 31 (0, 0)) → ∀ cs, (V.setRow w.heap.size cs).heap[w.heap.size]? = some (.cells cs 31 (0, 0))) := Lib.hid (fun V h cs => setRow_heap' h)
    clear zz
    by_cases hx0 : x = 0
    · have x1 : (x != 0) = false := by rw [hx0]; rfl
      by_cases hY0 : Y.size = 0
      · obtain ⟨y1, y2⟩ := emp_of (decide_eq_true hY0)
        have y3 := emp_yes hY0
        have HY2 := Lib.hid (HY.out hx0 (size0 hY0))
        have HN2 := Lib.hid (fun h : okI ⟨K, M, L, S, T⟩ = false => HN.out (by rintro ⟨_, _, h2⟩; rw [h] at h2; cases h2))
        subst hx0
        clear hY0 HY HN
        go_wp2_with (refine wpList_store_row rfl 31 (.tmp 16) (.tmp 57) rfl w4.heap.size #[.int .u8 K, .int .u16 M, .int .u32 L, .int .u32 S, .string T] rfl rfl 31 #[.int .u8 0, .int .u16 0, .int .u32 0, .int .u32 0, .string ⟨#[]⟩] (heap_alloc_new w4 _) (by kernel_rfl) rfl (row5 _ _ _ _ _) ?_; change wpList _ _ _ _ _ ((w4.alloc (.cells #[.int .u8 0, .int .u16 0, .int .u32 0, .int .u32 0, .string ⟨#[]⟩] 31)).setRow w4.heap.size #[.int .u8 K, .int .u16 M, .int .u32 L, .int .u32 S, .string T]); generalize ((w4.alloc (.cells #[.int .u8 0, .int .u16 0, .int .u32 0, .int .u32 0, .string ⟨#[]⟩] 31)).setRow w4.heap.size #[.int .u8 K, .int .u16 M, .int .u32 L, .int .u32 S, .string T]) = W5 at *; have c0 : W5.cell? ⟨w4.heap.size, 0, none⟩ = some (.int .u8 K) := (cell_of_row W5 w4.heap.size 0 #[.int .u8 K, .int .u16 M, .int .u32 L, .int .u32 S, .string T] 31 (0, 0) N1.out.2.1).trans rfl; have c1 : W5.cell? ⟨w4.heap.size, 1, none⟩ = some (.int .u16 M) := (cell_of_row W5 w4.heap.size 1 #[.int .u8 K, .int .u16 M, .int .u32 L, .int .u32 S, .string T] 31 (0, 0) N1.out.2.1).trans rfl; have c2 : W5.cell? ⟨w4.heap.size, 2, none⟩ = some (.int .u32 L) := (cell_of_row W5 w4.heap.size 2 #[.int .u8 K, .int .u16 M, .int .u32 L, .int .u32 S, .string T] 31 (0, 0) N1.out.2.1).trans rfl; have c3 : W5.cell? ⟨w4.heap.size, 3, none⟩ = some (.int .u32 S) := (cell_of_row W5 w4.heap.size 3 #[.int .u8 K, .int .u16 M, .int .u32 L, .int .u32 S, .string T] 31 (0, 0) N1.out.2.1).trans rfl; have c4 : W5.cell? ⟨w4.heap.size, 4, none⟩ = some (.string T) := (cell_of_row W5 w4.heap.size 4 #[.int .u8 K, .int .u16 M, .int .u32 L, .int .u32 S, .string T] 31 (0, 0) N1.out.2.1).trans rfl)
        refine (CK.out _).mono ?_
        rintro e w6 ⟨rfl, hb⟩
        have R6 := Lib.hid (row_bel N1.out.1 hb (by have h1 := N1.out.2.2.2; omega))
        have Rn := Lib.hid (row_bel N1.out.2.1 hb N1.out.2.2.2)
        have B6 := Lib.hid (B4.out.trans ((N1.out.2.2.1.trans (hb.mono N1.out.2.2.1.size)).mono B4.out.size))
        have d0 := (cell_of_row w6 w4.heap.size 0 #[.int .u8 K, .int .u16 M, .int .u32 L, .int .u32 S, .string T] 31 (0, 0) Rn.out).trans rfl
        have d1 := (cell_of_row w6 w4.heap.size 1 #[.int .u8 K, .int .u16 M, .int .u32 L, .int .u32 S, .string T] 31 (0, 0) Rn.out).trans rfl
        have d2 := (cell_of_row w6 w4.heap.size 2 #[.int .u8 K, .int .u16 M, .int .u32 L, .int .u32 S, .string T] 31 (0, 0) Rn.out).trans rfl
        have d3 := (cell_of_row w6 w4.heap.size 3 #[.int .u8 K, .int .u16 M, .int .u32 L, .int .u32 S, .string T] 31 (0, 0) Rn.out).trans rfl
        have d4 := (cell_of_row w6 w4.heap.size 4 #[.int .u8 K, .int .u16 M, .int .u32 L, .int .u32 S, .string T] 31 (0, 0) Rn.out).trans rfl
        clear hb c0 c1 c2 c3 c4 N1 R4 B4 CK
        cases hq : okI ⟨K, M, L, S, T⟩
        · have HF := Lib.hid (HN2.out hq)
          rw [(CHN.out hq).1]
          clear hq HY2 HN2 CHY CHN
          go_wp2_with (refine wpList_store_row rfl 31 (.tmp 2) (.tmp 69) rfl w.heap.size #[.int .u8 0, .int .u16 0, .int .u32 0, .int .u32 0, .string ⟨#[]⟩] rfl rfl 31 #[.int .u8 0, .int .u16 0, .int .u32 0, .int .u32 0, .string ⟨#[]⟩] R6.out (by kernel_rfl) rfl (row5 _ _ _ _ _) ?_)
          refine bodyPost_ret (v := .tuple #[.agg #[.int .u8 0, .int .u16 0, .int .u32 0, .int .u32 0, .string ⟨#[]⟩], .int .i64 4]) (results_row2 rfl _ _ w.heap.size 31 #[.int .u8 0, .int .u16 0, .int .u32 0, .int .u32 0, .string ⟨#[]⟩] (0, 0) _ rfl (fin.out _ R6.out _) Tryz.underlying31 rfl (by kernel_rfl) _ rfl) rfl ?_
          exact ⟨by rw [HF.out.1, HF.out.2]; rfl, below_setRow B6.out (Nat.le_refl _) _⟩
        · have HF := Lib.hid (HY2.out hq)
          rw [(CHY.out hq).1]
          clear hq HY2 HN2 CHY CHN
          go_wp2_with (first
            | (refine wpList_load_row rfl 31 (.tmp 16) rfl w4.heap.size rfl 31 #[.int .u8 K, .int .u16 M, .int .u32 L, .int .u32 S, .string T] (0, 0) _ Rn.out Tryz.underlying31 rfl (by kernel_rfl) ?_)
            | (refine wpList_store_row rfl 31 (.tmp 2) (.tmp 70) rfl w.heap.size #[.int .u8 K, .int .u16 M, .int .u32 L, .int .u32 S, .string T] rfl rfl 31 #[.int .u8 0, .int .u16 0, .int .u32 0, .int .u32 0, .string ⟨#[]⟩] R6.out (by kernel_rfl) rfl (row5 _ _ _ _ _) ?_))
          refine bodyPost_ret (v := .tuple #[.agg #[.int .u8 K, .int .u16 M, .int .u32 L, .int .u32 S, .string T], .int .i64 0]) (results_row2 rfl _ _ w.heap.size 31 #[.int .u8 K, .int .u16 M, .int .u32 L, .int .u32 S, .string T] (0, 0) _ rfl (fin.out _ R6.out _) Tryz.underlying31 rfl (by kernel_rfl) _ rfl) rfl ?_
          exact ⟨by rw [HF.out.1, HF.out.2]; rfl, below_setRow B6.out (Nat.le_refl _) _⟩
      · obtain ⟨y1, y2⟩ := emp_of (decide_eq_false hY0)
        have y3 := emp_no hY0
        have HF := Lib.hid (HN.out (by rintro ⟨_, h2, _⟩; rw [h2] at hY0; exact hY0 rfl))
        subst hx0
        clear hY0 HY HN CK CHY CHN
        go_wp2_with (first
          | (refine wpList_store_row rfl 31 (.tmp 16) (.tmp 57) rfl w4.heap.size #[.int .u8 K, .int .u16 M, .int .u32 L, .int .u32 S, .string T] rfl rfl 31 #[.int .u8 0, .int .u16 0, .int .u32 0, .int .u32 0, .string ⟨#[]⟩] (heap_alloc_new w4 _) (by kernel_rfl) rfl (row5 _ _ _ _ _) ?_; change wpList _ _ _ _ _ ((w4.alloc (.cells #[.int .u8 0, .int .u16 0, .int .u32 0, .int .u32 0, .string ⟨#[]⟩] 31)).setRow w4.heap.size #[.int .u8 K, .int .u16 M, .int .u32 L, .int .u32 S, .string T]); generalize ((w4.alloc (.cells #[.int .u8 0, .int .u16 0, .int .u32 0, .int .u32 0, .string ⟨#[]⟩] 31)).setRow w4.heap.size #[.int .u8 K, .int .u16 M, .int .u32 L, .int .u32 S, .string T]) = W5 at *; have c0 : W5.cell? ⟨w4.heap.size, 0, none⟩ = some (.int .u8 K) := (cell_of_row W5 w4.heap.size 0 #[.int .u8 K, .int .u16 M, .int .u32 L, .int .u32 S, .string T] 31 (0, 0) N1.out.2.1).trans rfl; have c1 : W5.cell? ⟨w4.heap.size, 1, none⟩ = some (.int .u16 M) := (cell_of_row W5 w4.heap.size 1 #[.int .u8 K, .int .u16 M, .int .u32 L, .int .u32 S, .string T] 31 (0, 0) N1.out.2.1).trans rfl; have c2 : W5.cell? ⟨w4.heap.size, 2, none⟩ = some (.int .u32 L) := (cell_of_row W5 w4.heap.size 2 #[.int .u8 K, .int .u16 M, .int .u32 L, .int .u32 S, .string T] 31 (0, 0) N1.out.2.1).trans rfl; have c3 : W5.cell? ⟨w4.heap.size, 3, none⟩ = some (.int .u32 S) := (cell_of_row W5 w4.heap.size 3 #[.int .u8 K, .int .u16 M, .int .u32 L, .int .u32 S, .string T] 31 (0, 0) N1.out.2.1).trans rfl; have c4 : W5.cell? ⟨w4.heap.size, 4, none⟩ = some (.string T) := (cell_of_row W5 w4.heap.size 4 #[.int .u8 K, .int .u16 M, .int .u32 L, .int .u32 S, .string T] 31 (0, 0) N1.out.2.1).trans rfl)
          | (refine wpList_store_row rfl 31 (.tmp 2) (.tmp 69) rfl w.heap.size #[.int .u8 0, .int .u16 0, .int .u32 0, .int .u32 0, .string ⟨#[]⟩] rfl rfl 31 #[.int .u8 0, .int .u16 0, .int .u32 0, .int .u32 0, .string ⟨#[]⟩] N1.out.1 (by kernel_rfl) rfl (row5 _ _ _ _ _) ?_))
        refine bodyPost_ret (v := .tuple #[.agg #[.int .u8 0, .int .u16 0, .int .u32 0, .int .u32 0, .string ⟨#[]⟩], .int .i64 4]) (results_row2 rfl _ _ w.heap.size 31 #[.int .u8 0, .int .u16 0, .int .u32 0, .int .u32 0, .string ⟨#[]⟩] (0, 0) _ rfl (fin.out _ N1.out.1 _) Tryz.underlying31 rfl (by kernel_rfl) _ rfl) rfl ?_
        exact ⟨by rw [HF.out.1, HF.out.2]; rfl, below_setRow (B4.out.trans (N1.out.2.2.1.mono B4.out.size)) (Nat.le_refl _) _⟩
    · have x1' : (x == 0) = false := by rw [beq_eq_false_iff_ne]; exact hx0
      have x1 : (x != 0) = true := by rw [bne, x1']; rfl
      have HF := Lib.hid (HN.out (fun h => hx0 h.1))
      clear hx0 HY HN CK CHY CHN
      go_wp2_with (first
        | (refine wpList_store_row rfl 31 (.tmp 16) (.tmp 57) rfl w4.heap.size #[.int .u8 K, .int .u16 M, .int .u32 L, .int .u32 S, .string T] rfl rfl 31 #[.int .u8 0, .int .u16 0, .int .u32 0, .int .u32 0, .string ⟨#[]⟩] (heap_alloc_new w4 _) (by kernel_rfl) rfl (row5 _ _ _ _ _) ?_; change wpList _ _ _ _ _ ((w4.alloc (.cells #[.int .u8 0, .int .u16 0, .int .u32 0, .int .u32 0, .string ⟨#[]⟩] 31)).setRow w4.heap.size #[.int .u8 K, .int .u16 M, .int .u32 L, .int .u32 S, .string T]); generalize ((w4.alloc (.cells #[.int .u8 0, .int .u16 0, .int .u32 0, .int .u32 0, .string ⟨#[]⟩] 31)).setRow w4.heap.size #[.int .u8 K, .int .u16 M, .int .u32 L, .int .u32 S, .string T]) = W5 at *; have c0 : W5.cell? ⟨w4.heap.size, 0, none⟩ = some (.int .u8 K) := (cell_of_row W5 w4.heap.size 0 #[.int .u8 K, .int .u16 M, .int .u32 L, .int .u32 S, .string T] 31 (0, 0) N1.out.2.1).trans rfl; have c1 : W5.cell? ⟨w4.heap.size, 1, none⟩ = some (.int .u16 M) := (cell_of_row W5 w4.heap.size 1 #[.int .u8 K, .int .u16 M, .int .u32 L, .int .u32 S, .string T] 31 (0, 0) N1.out.2.1).trans rfl; have c2 : W5.cell? ⟨w4.heap.size, 2, none⟩ = some (.int .u32 L) := (cell_of_row W5 w4.heap.size 2 #[.int .u8 K, .int .u16 M, .int .u32 L, .int .u32 S, .string T] 31 (0, 0) N1.out.2.1).trans rfl; have c3 : W5.cell? ⟨w4.heap.size, 3, none⟩ = some (.int .u32 S) := (cell_of_row W5 w4.heap.size 3 #[.int .u8 K, .int .u16 M, .int .u32 L, .int .u32 S, .string T] 31 (0, 0) N1.out.2.1).trans rfl; have c4 : W5.cell? ⟨w4.heap.size, 4, none⟩ = some (.string T) := (cell_of_row W5 w4.heap.size 4 #[.int .u8 K, .int .u16 M, .int .u32 L, .int .u32 S, .string T] 31 (0, 0) N1.out.2.1).trans rfl)
        | (refine wpList_store_row rfl 31 (.tmp 2) (.tmp 69) rfl w.heap.size #[.int .u8 0, .int .u16 0, .int .u32 0, .int .u32 0, .string ⟨#[]⟩] rfl rfl 31 #[.int .u8 0, .int .u16 0, .int .u32 0, .int .u32 0, .string ⟨#[]⟩] N1.out.1 (by kernel_rfl) rfl (row5 _ _ _ _ _) ?_))
      refine bodyPost_ret (v := .tuple #[.agg #[.int .u8 0, .int .u16 0, .int .u32 0, .int .u32 0, .string ⟨#[]⟩], .int .i64 4]) (results_row2 rfl _ _ w.heap.size 31 #[.int .u8 0, .int .u16 0, .int .u32 0, .int .u32 0, .string ⟨#[]⟩] (0, 0) _ rfl (fin.out _ N1.out.1 _) Tryz.underlying31 rfl (by kernel_rfl) _ rfl) rfl ?_
      exact ⟨by rw [HF.out.1, HF.out.2]; rfl, below_setRow (B4.out.trans (N1.out.2.2.1.mono B4.out.size)) (Nat.le_refl _) _⟩
  · have d11 : decide ((s.size : Int) < 11) = true := by simp; omega
    have HN := Lib.hid (deI_no (s := s) (fun h => h11 h.1))
    have HZ := Lib.hid (setRow_heap' (cs := #[.int .u8 0, .int .u16 0, .int .u32 0, .int .u32 0, .string ⟨#[]⟩]) R0.out)
    have BZ := Lib.hid (below_setRow B0.out (Nat.le_refl _) #[.int .u8 0, .int .u16 0, .int .u32 0, .int .u32 0, .string ⟨#[]⟩])
    go_enter Tryz.func38, Tryz.ntmps38
    go_wp2_with (refine wpList_store_row rfl 31 (.tmp 2) (.tmp 20) rfl w.heap.size #[.int .u8 0, .int .u16 0, .int .u32 0, .int .u32 0, .string ⟨#[]⟩] rfl rfl 31 #[.int .u8 0, .int .u16 0, .int .u32 0, .int .u32 0, .string ⟨#[]⟩] R0.out (by kernel_rfl) rfl (row5 _ _ _ _ _) ?_)
    refine bodyPost_ret (v := .tuple #[.agg #[.int .u8 0, .int .u16 0, .int .u32 0, .int .u32 0, .string ⟨#[]⟩], .int .i64 4]) (results_row2 rfl _ _ w.heap.size 31 #[.int .u8 0, .int .u16 0, .int .u32 0, .int .u32 0, .string ⟨#[]⟩] (0, 0) _ rfl HZ.out Tryz.underlying31 rfl (by kernel_rfl) _ rfl) rfl ?_
    exact ⟨by rw [HN.out.1, HN.out.2]; rfl, BZ.out⟩
end Go.Proofs.YtngcogjjcidccaaGreat.Ino
