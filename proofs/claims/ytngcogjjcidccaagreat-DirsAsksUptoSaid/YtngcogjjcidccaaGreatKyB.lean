/- Contracts of package inode: what a right key is, its bytes, there and back. -/
import Derived.Test.YtngcogjjcidccaaGreatKyA
namespace Go.Proofs.YtngcogjjcidccaaGreat.Ino
set_option linter.unusedVariables false
set_option linter.unusedSimpArgs false
open Go.ChangeShapes Go.WideShapes Go.ChangeAt Go.RowKit
open Rg
open Pk (be num be_length num_be num_lt bs bs_size nB nE tN tR tE xB_size)
open Ph (has tl tl_len nb contains_any name_any)
theorem ltz {a b : Nat} {q : Bool} (h : decide (a < b) = q) : decide ((a : Int) < (b : Int)) = q := by
  rw [← h]; exact decide_eq_decide.2 (by omega)
theorem ltzC {a : Nat} {q : Bool} (h : decide (a < 512) = q) : decide ((a : Int) < 512) = q := ltz (b := 512) h
set_option maxRecDepth 100000 in
set_option maxHeartbeats 2000000 in
theorem rightKey_in (k : Ky) (hl : k.lim) (w : World) :
    Calls Tryz.prog 44 #[vK k] w fun e w' => e = .returned (.bool (okK k)) ∧ Below w.heap.size w w' := by
  obtain ⟨K, I, N, C⟩ := k
  obtain ⟨l1, l2, l3⟩ := hl
  dsimp only at l1 l2 l3
  unfold vK
  dsimp only
  have HNm := Lib.hid (fun w => name_any N w (contains_any N))
  have hq : okK ⟨K, I, N, C⟩ = (decide (1 ≤ I) && (if K = 1 then decide (N.size = 0) && decide (C = 0) else if K = 2 ∨ K = 4 then nb N && decide (C = 0) else if K = 3 then decide (N.size = 0) && decide (C < 512) else false)) := rfl
  cases i0 : decide (I = 0)
  · have I0 := eqz0 i0
    have i1 : decide (1 ≤ I) = true := decide_eq_true (by have := of_decide_eq_false i0; omega)
    rw [i1, Bool.true_and] at hq
    clear i1 i0
    cases k1 : decide (K = 1)
    · have K1 := eqz1 k1
      have k1' := of_decide_eq_false k1
      rw [if_neg k1'] at hq
      cases k2 : decide (K = 2)
      · have K2 := eqz2 k2
        have k2' := of_decide_eq_false k2
        cases k4 : decide (K = 4)
        · have K4 := eqz4 k4
          have k4' := of_decide_eq_false k4
          rw [if_neg (by omega)] at hq
          cases k3 : decide (K = 3)
          · have K3 := eqz3 k3
            have k3' := of_decide_eq_false k3
            rw [if_neg k3'] at hq
            have HQ := Lib.hid (show okK ⟨K, I, N, C⟩ = false by rw [hq])
            clear hq k1 k2 k3 k4 k1' k2' k3' k4'
            go_enter Tryz.func44, Tryz.ntmps44
            go_wp2
            go_ret
            exact ⟨by rw [HQ.out]; rfl, (Below.refl _ _).alloc (Nat.le_refl _) _⟩
          · have K3 := eqz3 k3
            have k3' := of_decide_eq_true k3
            rw [if_pos k3'] at hq
            clear k1 k2 k3 k4 k1' k2' k3' k4'
            cases a1 : decide (N.size = 0)
            · obtain ⟨A3, A4⟩ := emp_of a1
              have A5 := emp_no (of_decide_eq_false a1)
              rw [a1] at hq
              have HQ := Lib.hid (show okK ⟨K, I, N, C⟩ = false by rw [hq]; rfl)
              clear hq a1
              go_enter Tryz.func44, Tryz.ntmps44
              go_wp2
              go_ret
              exact ⟨by rw [HQ.out]; rfl, (Below.refl _ _).alloc (Nat.le_refl _) _⟩
            · obtain ⟨A3, A4⟩ := emp_of a1
              have A5 := emp_yes (of_decide_eq_true a1)
              rw [a1] at hq
              cases a2 : decide (C < 512)
              · have A2 := ltzC a2
                rw [a2] at hq
                have HQ := Lib.hid (show okK ⟨K, I, N, C⟩ = false by rw [hq]; rfl)
                clear hq a1 a2
                go_enter Tryz.func44, Tryz.ntmps44
                go_wp2
                go_ret
                exact ⟨by rw [HQ.out]; rfl, (Below.refl _ _).alloc (Nat.le_refl _) _⟩
              · have A2 := ltzC a2
                rw [a2] at hq
                have HQ := Lib.hid (show okK ⟨K, I, N, C⟩ = true by rw [hq]; rfl)
                clear hq a1 a2
                go_enter Tryz.func44, Tryz.ntmps44
                go_wp2
                go_ret
                exact ⟨by rw [HQ.out]; rfl, (Below.refl _ _).alloc (Nat.le_refl _) _⟩
        · have K4 := eqz4 k4
          have k4' := of_decide_eq_true k4
          rw [if_pos (by omega)] at hq
          clear k1 k2 k4 k1' k2' k4'
          cases a1 : nb N
          · rw [a1] at hq HNm
            have HQ := Lib.hid (show okK ⟨K, I, N, C⟩ = false by rw [hq]; rfl)
            clear hq a1
            go_enter Tryz.func44, Tryz.ntmps44
            go_wp2_with (go_at_call 63; refine (HNm.out _).mono ?_; rintro e w' ⟨rfl, rfl⟩)
            go_ret
            exact ⟨by rw [HQ.out]; rfl, (Below.refl _ _).alloc (Nat.le_refl _) _⟩
          · rw [a1] at hq HNm
            cases a2 : decide (C = 0)
            · have A2 := eqz0 a2
              rw [a2] at hq
              have HQ := Lib.hid (show okK ⟨K, I, N, C⟩ = false by rw [hq]; rfl)
              clear hq a1 a2
              go_enter Tryz.func44, Tryz.ntmps44
              go_wp2_with (go_at_call 63; refine (HNm.out _).mono ?_; rintro e w' ⟨rfl, rfl⟩)
              go_ret
              exact ⟨by rw [HQ.out]; rfl, (Below.refl _ _).alloc (Nat.le_refl _) _⟩
            · have A2 := eqz0 a2
              rw [a2] at hq
              have HQ := Lib.hid (show okK ⟨K, I, N, C⟩ = true by rw [hq]; rfl)
              clear hq a1 a2
              go_enter Tryz.func44, Tryz.ntmps44
              go_wp2_with (go_at_call 63; refine (HNm.out _).mono ?_; rintro e w' ⟨rfl, rfl⟩)
              go_ret
              exact ⟨by rw [HQ.out]; rfl, (Below.refl _ _).alloc (Nat.le_refl _) _⟩
      · have K2 := eqz2 k2
        have k2' := of_decide_eq_true k2
        rw [if_pos (by omega)] at hq
        clear k1 k2 k1' k2'
        cases a1 : nb N
        · rw [a1] at hq HNm
          have HQ := Lib.hid (show okK ⟨K, I, N, C⟩ = false by rw [hq]; rfl)
          clear hq a1
          go_enter Tryz.func44, Tryz.ntmps44
          go_wp2_with (go_at_call 63; refine (HNm.out _).mono ?_; rintro e w' ⟨rfl, rfl⟩)
          go_ret
          exact ⟨by rw [HQ.out]; rfl, (Below.refl _ _).alloc (Nat.le_refl _) _⟩
        · rw [a1] at hq HNm
          cases a2 : decide (C = 0)
          · have A2 := eqz0 a2
            rw [a2] at hq
            have HQ := Lib.hid (show okK ⟨K, I, N, C⟩ = false by rw [hq]; rfl)
            clear hq a1 a2
            go_enter Tryz.func44, Tryz.ntmps44
            go_wp2_with (go_at_call 63; refine (HNm.out _).mono ?_; rintro e w' ⟨rfl, rfl⟩)
            go_ret
            exact ⟨by rw [HQ.out]; rfl, (Below.refl _ _).alloc (Nat.le_refl _) _⟩
          · have A2 := eqz0 a2
            rw [a2] at hq
            have HQ := Lib.hid (show okK ⟨K, I, N, C⟩ = true by rw [hq]; rfl)
            clear hq a1 a2
            go_enter Tryz.func44, Tryz.ntmps44
            go_wp2_with (go_at_call 63; refine (HNm.out _).mono ?_; rintro e w' ⟨rfl, rfl⟩)
            go_ret
            exact ⟨by rw [HQ.out]; rfl, (Below.refl _ _).alloc (Nat.le_refl _) _⟩
    · have K1 := eqz1 k1
      have k1' := of_decide_eq_true k1
      rw [if_pos k1'] at hq
      clear k1 k1'
      cases a1 : decide (N.size = 0)
      · obtain ⟨A3, A4⟩ := emp_of a1
        have A5 := emp_no (of_decide_eq_false a1)
        rw [a1] at hq
        have HQ := Lib.hid (show okK ⟨K, I, N, C⟩ = false by rw [hq]; rfl)
        clear hq a1
        go_enter Tryz.func44, Tryz.ntmps44
        go_wp2
        go_ret
        exact ⟨by rw [HQ.out]; rfl, (Below.refl _ _).alloc (Nat.le_refl _) _⟩
      · obtain ⟨A3, A4⟩ := emp_of a1
        have A5 := emp_yes (of_decide_eq_true a1)
        rw [a1] at hq
        cases a2 : decide (C = 0)
        · have A2 := eqz0 a2
          rw [a2] at hq
          have HQ := Lib.hid (show okK ⟨K, I, N, C⟩ = false by rw [hq]; rfl)
          clear hq a1 a2
          go_enter Tryz.func44, Tryz.ntmps44
          go_wp2
          go_ret
          exact ⟨by rw [HQ.out]; rfl, (Below.refl _ _).alloc (Nat.le_refl _) _⟩
        · have A2 := eqz0 a2
          rw [a2] at hq
          have HQ := Lib.hid (show okK ⟨K, I, N, C⟩ = true by rw [hq]; rfl)
          clear hq a1 a2
          go_enter Tryz.func44, Tryz.ntmps44
          go_wp2
          go_ret
          exact ⟨by rw [HQ.out]; rfl, (Below.refl _ _).alloc (Nat.le_refl _) _⟩
  · have I0 := eqz0 i0
    have i1 : decide (1 ≤ I) = false := decide_eq_false (by have := of_decide_eq_true i0; omega)
    rw [i1, Bool.false_and] at hq
    clear i1 i0
    have HQ := Lib.hid (show okK ⟨K, I, N, C⟩ = false by rw [hq])
    clear hq
    go_enter Tryz.func44, Tryz.ntmps44
    go_wp2
    go_ret
    exact ⟨by rw [HQ.out]; rfl, (Below.refl _ _).alloc (Nat.le_refl _) _⟩
theorem pfx_size (K I : Nat) : (pfx K I).size ≤ 5 := by
  unfold pfx
  split
  · exact Nat.zero_le _
  · rw [ByteArray.size_append, bs_size, bs_size, be_length]
    have := @ltB_size K
    unfold ltB at this
    rw [bs_size] at this
    omega
set_option maxRecDepth 100000 in
set_option maxHeartbeats 2000000 in
theorem writtenKey_in (k : Ky) (hl : k.lim) (ht : k.N.size ≤ 65535) (w : World) :
    Calls Tryz.prog 45 #[vK k] w fun e w' => e = .returned (.string (wrK k)) ∧ Below w.heap.size w w' := by
  obtain ⟨K, I, N, C⟩ := k
  obtain ⟨l1, l2, l3⟩ := hl
  dsimp only at l1 l2 l3 ht
  unfold vK
  dsimp only
  have C0 := box_cell w #[.int .u8 K, .int .u32 I, .string N, .int .u32 C] 75 0 rfl
  have C1 := box_cell w #[.int .u8 K, .int .u32 I, .string N, .int .u32 C] 75 1 rfl
  have C2 := box_cell w #[.int .u8 K, .int .u32 I, .string N, .int .u32 C] 75 2 rfl
  have C3 := box_cell w #[.int .u8 K, .int .u32 I, .string N, .int .u32 C] 75 3 rfl
  have B0 := Lib.hid ((Below.refl w.heap.size w).alloc (Nat.le_refl _) (.cells #[.int .u8 K, .int .u32 I, .string N, .int .u32 C] 75))
  have hsz : w.heap.size < (w.alloc (.cells #[.int .u8 K, .int .u32 I, .string N, .int .u32 C] 75)).heap.size := by simp
  have HP := Lib.hid (fun w => prefix_in K I l1 l2 w)
  have HN := Lib.hid (fun w => number_in C 4 w (by omega) (by omega) (by omega) (by omega))
  have HU := Lib.hid (u64_id (n := C) (by omega))
  have pz := pfx_size K I
  have cz : (bs (be 4 C)).size = 4 := by rw [bs_size, be_length]
  go_enter Tryz.func45, Tryz.ntmps45
  go_wp2_with fail
  obtain ⟨b0, hb0⟩ : ∃ b, w.heap.size = b := ⟨_, rfl⟩
  have HB0 := Lib.hid hb0
  rw [hb0] at C0 C1 C2 C3 B0 hsz ⊢
  clear hb0
  obtain ⟨W, hW⟩ : ∃ W, w.alloc (.cells #[.int .u8 K, .int .u32 I, .string N, .int .u32 C] 75) = W := ⟨_, rfl⟩
  rw [hW] at C0 C1 C2 C3 B0 hsz
  change Code.wp _ _ _ _ (w.alloc (.cells #[.int .u8 K, .int .u32 I, .string N, .int .u32 C] 75))
  rw [hW]
  clear hW
  obtain ⟨P, hP⟩ : ∃ P, pfx K I = P := ⟨_, rfl⟩
  rw [hP] at HP pz
  have HPP := Lib.hid hP
  clear hP
  have hbl := hsz
  refine wp_region_G (fun w' => Below W.heap.size W w') (by kernel_rfl) (by kernel_rfl) (Below.refl _ _).drew ?_
  refine wpG_val (.pointer (some ⟨b0, 0, none⟩)) rfl (by rfl) (fun w' hSw => by go_simp) ?_
  simp only [List.setIfInBounds_toArray, List.set_cons_zero, List.set_cons_succ]
  refine wpG_val (.int .u8 K) rfl (by rfl) (fun w' hSw => by have c := (Below.cell hSw (p := ⟨b0, 0, none⟩) hbl).trans C0; go_simp) ?_
  simp only [List.setIfInBounds_toArray, List.set_cons_zero, List.set_cons_succ]
  refine wpG_val (.pointer (some ⟨b0, 1, none⟩)) rfl (by rfl) (fun w' hSw => by go_simp) ?_
  simp only [List.setIfInBounds_toArray, List.set_cons_zero, List.set_cons_succ]
  refine wpG_val (.int .u32 I) rfl (by rfl) (fun w' hSw => by have c := (Below.cell hSw (p := ⟨b0, 1, none⟩) hbl).trans C1; go_simp) ?_
  simp only [List.setIfInBounds_toArray, List.set_cons_zero, List.set_cons_succ]
  refine wpG_call (.string P) 64 #[.int .u8 K, .int .u32 I] rfl (by rfl) (fun w' => by go_simp) (fun w' hSw => (HP.out w').mono fun e w2 h => ⟨h.1, hSw.trans (h.2.mono hSw.size)⟩) ?_
  simp only [List.setIfInBounds_toArray, List.set_cons_zero, List.set_cons_succ]
  refine wpG_val (.pointer (some ⟨b0, 2, none⟩)) rfl (by rfl) (fun w' hSw => by go_simp) ?_
  simp only [List.setIfInBounds_toArray, List.set_cons_zero, List.set_cons_succ]
  refine wpG_val (.string N) rfl (by rfl) (fun w' hSw => by have c := (Below.cell hSw (p := ⟨b0, 2, none⟩) hbl).trans C2; go_simp) ?_
  simp only [List.setIfInBounds_toArray, List.set_cons_zero, List.set_cons_succ]
  refine wpG_val (.string (P ++ N)) rfl (by rfl) (fun w' hSw => by go_simp <;> omega) ?_
  simp only [List.setIfInBounds_toArray, List.set_cons_zero, List.set_cons_succ]
  refine wpG_val (.string (P ++ N)) rfl (by rfl) (fun w' hSw => by go_simp) ?_
  simp only [List.setIfInBounds_toArray, List.set_cons_zero, List.set_cons_succ]
  refine wpG_nil ?_
  intro w1 hSw
  have D0 := (Below.cell hSw (p := ⟨b0, 0, none⟩) hbl).trans C0
  have D3 := (Below.cell hSw (p := ⟨b0, 3, none⟩) hbl).trans C3
  have B1 := Lib.hid (B0.out.trans (hSw.mono (Nat.le_of_lt hbl)))
  have hbl1 : b0 < w1.heap.size := Nat.lt_of_lt_of_le hbl hSw.size
  clear C0 C1 C2 C3 hSw B0 HP
  cases k3 : decide (K = 3)
  · have K3 := eqz3 k3
    have HW := Lib.hid (show wrK ⟨K, I, N, C⟩ = P ++ N by unfold wrK; dsimp only; rw [if_neg (of_decide_eq_false k3), HPP.out])
    clear k3
    go_wp2
    go_ret
    exact ⟨by rw [HW.out]; rfl, by rw [HB0.out]; exact B1.out⟩
  · have K3 := eqz3 k3
    have HW := Lib.hid (show wrK ⟨K, I, N, C⟩ = P ++ N ++ bs (be 4 C) by unfold wrK; dsimp only; rw [if_pos (of_decide_eq_true k3), HPP.out])
    clear k3
    have u := HU.out
    go_wp2_with (go_at_call 65; refine (HN.out _).mono ?_; rintro e w' ⟨rfl, hb⟩)
    go_ret
    exact ⟨by rw [HW.out]; rfl, by rw [HB0.out]; exact B1.out.trans (hb.mono (Nat.le_of_lt hbl1))⟩
/-- a key's bytes, or none; which error -/
def enK (k : Ky) : ByteArray := if okK k then wrK k else ByteArray.empty
def chK (k : Ky) : Int := if okK k then 0 else 4
theorem chK_yes {k : Ky} (h : okK k = true) : chK k = 0 ∧ enK k = wrK k := by unfold chK enK; rw [h]; exact ⟨rfl, rfl⟩
theorem chK_no {k : Ky} (h : okK k = false) : chK k = 4 ∧ enK k = ByteArray.empty := by unfold chK enK; rw [h]; exact ⟨rfl, rfl⟩
theorem okK_size {k : Ky} (h : okK k = true) : k.N.size ≤ 24 := by
  rcases (okK_iff.1 h).2 with h | h | h
  · omega
  · exact (nb_size h.2.1).2
  · omega
set_option maxRecDepth 100000 in
set_option maxHeartbeats 1000000 in
theorem key_in (k : Ky) (hl : k.lim) (w : World) :
    Calls Tryz.prog 31 #[vK k] w fun e w' => e = .returned (.tuple #[.string (enK k), .int .i64 (chK k)]) ∧ Below w.heap.size w w' := by
  obtain ⟨K, I, N, C⟩ := k
  have HC := Lib.hid (rightKey_in ⟨K, I, N, C⟩ hl)
  have HW := Lib.hid (fun ht w => writtenKey_in ⟨K, I, N, C⟩ hl ht w)
  have C0 := box_cell w #[.int .u8 K, .int .u32 I, .string N, .int .u32 C] 75 0 rfl
  have C1 := box_cell w #[.int .u8 K, .int .u32 I, .string N, .int .u32 C] 75 1 rfl
  have C2 := box_cell w #[.int .u8 K, .int .u32 I, .string N, .int .u32 C] 75 2 rfl
  have C3 := box_cell w #[.int .u8 K, .int .u32 I, .string N, .int .u32 C] 75 3 rfl
  have B0 := Lib.hid ((Below.refl w.heap.size w).alloc (Nat.le_refl _) (.cells #[.int .u8 K, .int .u32 I, .string N, .int .u32 C] 75))
  have hsz : w.heap.size < (w.alloc (.cells #[.int .u8 K, .int .u32 I, .string N, .int .u32 C] 75)).heap.size := by simp
  unfold vK
  dsimp only
  cases hq : okK ⟨K, I, N, C⟩
  · have HQ := Lib.hid (chK_no hq)
    rw [hq] at HC
    clear hq HW
    go_enter Tryz.func31, Tryz.ntmps31
    go_wp2_with fail
    change Calls _ _ _ (w.alloc (.cells #[.int .u8 K, .int .u32 I, .string N, .int .u32 C] 75)) _
    generalize w.alloc (.cells #[.int .u8 K, .int .u32 I, .string N, .int .u32 C] 75) = W at *
    refine (HC.out W).mono ?_
    rintro e w1 ⟨rfl, hb⟩
    have B1 := Lib.hid (B0.out.trans (hb.mono B0.out.size))
    clear C0 C1 C2 C3 hb B0 HC
    go_wp2
    go_ret2
    exact ⟨by rw [HQ.out.1, HQ.out.2]; rfl, B1.out⟩
  · have HQ := Lib.hid (chK_yes hq)
    have HW2 := Lib.hid (HW.out (by have := okK_size hq; dsimp only at this ⊢; omega))
    rw [hq] at HC
    clear hq HW
    go_enter Tryz.func31, Tryz.ntmps31
    go_wp2_with fail
    change Calls _ _ _ (w.alloc (.cells #[.int .u8 K, .int .u32 I, .string N, .int .u32 C] 75)) _
    generalize w.alloc (.cells #[.int .u8 K, .int .u32 I, .string N, .int .u32 C] 75) = W at *
    refine (HC.out W).mono ?_
    rintro e w1 ⟨rfl, hb⟩
    have D0 := (Below.cell hb (p := ⟨w.heap.size, 0, none⟩) hsz).trans C0
    have D1 := (Below.cell hb (p := ⟨w.heap.size, 1, none⟩) hsz).trans C1
    have D2 := (Below.cell hb (p := ⟨w.heap.size, 2, none⟩) hsz).trans C2
    have D3 := (Below.cell hb (p := ⟨w.heap.size, 3, none⟩) hsz).trans C3
    have B1 := Lib.hid (B0.out.trans (hb.mono B0.out.size))
    clear C0 C1 C2 C3 hb B0 HC
    go_wp2_with (go_at_call 45; refine (HW2.out _).mono ?_; rintro e w' ⟨rfl, hb⟩)
    go_ret2
    exact ⟨by rw [HQ.out.1, HQ.out.2]; rfl, B1.out.trans (hb.mono B1.out.size)⟩
end Go.Proofs.YtngcogjjcidccaaGreat.Ino
