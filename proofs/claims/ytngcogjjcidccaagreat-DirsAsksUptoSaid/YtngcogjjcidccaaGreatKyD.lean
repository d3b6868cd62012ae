/- The document's own answers about keys. -/
import Derived.Test.YtngcogjjcidccaaGreatKyC
namespace Go.Proofs.YtngcogjjcidccaaGreat.Ino
set_option linter.unusedVariables false
set_option linter.unusedSimpArgs false
open Go.ChangeShapes Go.WideShapes Go.ChangeAt Go.RowKit
open BigFrame
open Rg
open Pk (be num be_length num_be num_lt bs bs_size nB nE tN tR tE xB_size ref_bytes ref_take_any)
open Ph (has tl tl_len nb refName_any)
theorem refLetter_in (K : Nat) (w : World) : Calls Tryz.prog 41 #[.int .u8 K] w fun e w' => e = .returned (.string (ltB K)) ∧ w = w' := by
  cases k1 : decide (K = 1)
  · have K1 := eqz1 k1
    cases k2 : decide (K = 2)
    · have K2 := eqz2 k2
      cases k3 : decide (K = 3)
      · have K3 := eqz3 k3
        cases k4 : decide (K = 4)
        · have K4 := eqz4 k4
          have HL := Lib.hid (show ltB K = ⟨#[]⟩ by unfold ltB lt; rw [if_neg (of_decide_eq_false k1), if_neg (of_decide_eq_false k2), if_neg (of_decide_eq_false k3), if_neg (of_decide_eq_false k4)]; rfl)
          clear k1 k2 k3 k4
          go_enter Tryz.func41, Tryz.ntmps41
          go_wp2
          go_ret
          exact ⟨by rw [HL.out]; rfl, rfl⟩
        · have K4 := eqz4 k4
          have HL := Lib.hid (show ltB K = ⟨#[120]⟩ by rw [of_decide_eq_true k4]; rfl)
          clear k1 k2 k3 k4
          go_enter Tryz.func41, Tryz.ntmps41
          go_wp2
          go_ret
          exact ⟨by rw [HL.out]; rfl, rfl⟩
      · have K3 := eqz3 k3
        have HL := Lib.hid (show ltB K = ⟨#[99]⟩ by rw [of_decide_eq_true k3]; rfl)
        clear k1 k2 k3
        go_enter Tryz.func41, Tryz.ntmps41
        go_wp2
        go_ret
        exact ⟨by rw [HL.out]; rfl, rfl⟩
    · have K2 := eqz2 k2
      have HL := Lib.hid (show ltB K = ⟨#[100]⟩ by rw [of_decide_eq_true k2]; rfl)
      clear k1 k2
      go_enter Tryz.func41, Tryz.ntmps41
      go_wp2
      go_ret
      exact ⟨by rw [HL.out]; rfl, rfl⟩
  · have K1 := eqz1 k1
    have HL := Lib.hid (show ltB K = ⟨#[105]⟩ by rw [of_decide_eq_true k1]; rfl)
    clear k1
    go_enter Tryz.func41, Tryz.ntmps41
    go_wp2
    go_ret
    exact ⟨by rw [HL.out]; rfl, rfl⟩
set_option maxHeartbeats 1000000 in
theorem refPrefix_in (K I : Nat) (hI : I < 4294967296) (w : World) :
    Calls Tryz.prog 48 #[.int .u8 K, .int .u32 I] w fun e w' => e = .returned (.string (pfx K I)) ∧ Below w.heap.size w w' := by
  have hz := ltB_size (K := K)
  have HU := Lib.hid (u64_id (n := I) (by omega))
  have HN := Lib.hid (fun w => ref_bytes I 4 w (by omega) (by omega))
  have hbz : (bs (be 4 I)).size = 4 := by rw [bs_size, be_length]
  by_cases h0 : lt K = []
  · have HP := Lib.hid (show pfx K I = ByteArray.empty by unfold pfx; rw [if_pos h0])
    have e0 : (ltB K).size = 0 := by unfold ltB; rw [h0]; rfl
    obtain ⟨e1, e2⟩ := emp_of (decide_eq_true e0)
    have e3 := emp_yes e0
    clear h0 e0
    go_enter Tryz.func48, Tryz.ntmps48
    go_wp2_with (go_at_call 41; refine (refLetter_in K _).mono ?_; rintro e w' ⟨rfl, rfl⟩)
    go_ret
    exact ⟨by rw [HP.out]; rfl, Below.refl _ _⟩
  · have HP := Lib.hid (show pfx K I = ltB K ++ bs (be 4 I) by unfold pfx; rw [if_neg h0]; rfl)
    have e0 : ¬ (ltB K).size = 0 := by
      unfold ltB
      rw [bs_size]
      intro h
      exact h0 (List.eq_nil_of_length_eq_zero h)
    obtain ⟨e1, e2⟩ := emp_of (decide_eq_false e0)
    have e3 := emp_no e0
    clear h0 e0
    go_enter Tryz.func48, Tryz.ntmps48
    go_wp2_with fail
    refine (refLetter_in K _).mono ?_
    rintro e w' ⟨rfl, rfl⟩
    go_wp2_with fail
    refine (refLetter_in K _).mono ?_
    rintro e w' ⟨rfl, rfl⟩
    have u := HU.out
    go_wp2_with (go_at_call 49; refine (HN.out _).mono ?_; rintro e w' ⟨rfl, hb⟩)
    go_ret
    exact ⟨by rw [HP.out]; rfl, hb⟩
set_option maxRecDepth 100000 in
set_option maxHeartbeats 2000000 in
theorem refRight_in (k : Ky) (hl : k.lim) (hN : k.N.size ≤ maxLen) (w : World) :
    Calls Tryz.prog 42 #[vK k] w fun e w' => e = .returned (.bool (okK k)) ∧ Below w.heap.size w w' := by
  obtain ⟨K, I, N, C⟩ := k
  obtain ⟨l1, l2, l3⟩ := hl
  dsimp only at l1 l2 l3 hN
  unfold vK
  dsimp only
  have HNm := Lib.hid (fun w => refName_any N w hN)
  have hz := ltB_size (K := K)
  have hq : okK ⟨K, I, N, C⟩ = (decide (1 ≤ I) && (if K = 1 then decide (N.size = 0) && decide (C = 0) else if K = 2 ∨ K = 4 then nb N && decide (C = 0) else if K = 3 then decide (N.size = 0) && decide (C < 512) else false)) := rfl
  by_cases hk : 1 ≤ K ∧ K ≤ 4
  · have e0 : ¬ (ltB K).size = 0 := by
      unfold ltB
      rw [bs_size]
      intro h
      exact lt_of hk.1 hk.2 (List.eq_nil_of_length_eq_zero h)
    obtain ⟨e1, e2⟩ := emp_of (decide_eq_false e0)
    have e3 := emp_no e0
    clear e0
    cases i0 : decide (I = 0)
    · have I0 := eqz0 i0
      have i1 : decide (1 ≤ I) = true := decide_eq_true (by have := of_decide_eq_false i0; omega)
      rw [i1, Bool.true_and] at hq
      clear i1 i0
      cases k24 : decide (K = 2 ∨ K = 4)
      · have hn := of_decide_eq_false k24
        have K2 := eqz2 (a := K) (q := false) (decide_eq_false (by omega))
        have K4 := eqz4 (a := K) (q := false) (decide_eq_false (by omega))
        cases k3 : decide (K = 3)
        · have K3 := eqz3 k3
          have h3 := of_decide_eq_false k3
          rw [if_pos (by omega)] at hq
          clear k24 hn k3 h3 hk
          cases a1 : decide (N.size = 0)
          · obtain ⟨A3, A4⟩ := emp_of a1
            have A5 := emp_no (of_decide_eq_false a1)
            rw [a1] at hq
            have HQ := Lib.hid (show okK ⟨K, I, N, C⟩ = false by rw [hq]; rfl)
            clear hq a1
            go_enter Tryz.func42, Tryz.ntmps42
            go_wp2_with (go_at_call 41; refine (refLetter_in K _).mono ?_; rintro e w' ⟨rfl, rfl⟩)
            go_ret
            exact ⟨by rw [HQ.out]; rfl, (Below.refl _ _).alloc (Nat.le_refl _) _⟩
          · obtain ⟨A3, A4⟩ := emp_of a1
            have A5 := emp_yes (of_decide_eq_true a1)
            rw [a1] at hq
            cases a2 : decide (C = 0)
            · have A2 := eqz0 a2
              rw [a2] at hq
              have HQ := Lib.hid (show okK ⟨K, I, N, C⟩ = false by rw [hq]; rfl)
              clear hq a1 a2
              go_enter Tryz.func42, Tryz.ntmps42
              go_wp2_with (go_at_call 41; refine (refLetter_in K _).mono ?_; rintro e w' ⟨rfl, rfl⟩)
              go_ret
              exact ⟨by rw [HQ.out]; rfl, (Below.refl _ _).alloc (Nat.le_refl _) _⟩
            · have A2 := eqz0 a2
              rw [a2] at hq
              have HQ := Lib.hid (show okK ⟨K, I, N, C⟩ = true by rw [hq]; rfl)
              clear hq a1 a2
              go_enter Tryz.func42, Tryz.ntmps42
              go_wp2_with (go_at_call 41; refine (refLetter_in K _).mono ?_; rintro e w' ⟨rfl, rfl⟩)
              go_ret
              exact ⟨by rw [HQ.out]; rfl, (Below.refl _ _).alloc (Nat.le_refl _) _⟩
        · have K3 := eqz3 k3
          have h3 := of_decide_eq_true k3
          rw [if_neg (by omega), if_neg (by omega), if_pos h3] at hq
          clear k24 hn k3 h3 hk
          cases a1 : decide (N.size = 0)
          · obtain ⟨A3, A4⟩ := emp_of a1
            have A5 := emp_no (of_decide_eq_false a1)
            rw [a1] at hq
            have HQ := Lib.hid (show okK ⟨K, I, N, C⟩ = false by rw [hq]; rfl)
            clear hq a1
            go_enter Tryz.func42, Tryz.ntmps42
            go_wp2_with (go_at_call 41; refine (refLetter_in K _).mono ?_; rintro e w' ⟨rfl, rfl⟩)
            go_ret
            exact ⟨by rw [HQ.out]; rfl, (Below.refl _ _).alloc (Nat.le_refl _) _⟩
          · obtain ⟨A3, A4⟩ := emp_of a1
            have A5 := emp_yes (of_decide_eq_true a1)
            rw [a1] at hq
            cases a2 : decide (C < 512)
            · have A2 := ltzC a2
              rw [a2] at hq
              have HQ := Lib.hid (show okK ⟨K, I, N, C⟩ = false by rw [hq]; rfl)
              clear hq a1 a2
              go_enter Tryz.func42, Tryz.ntmps42
              go_wp2_with (go_at_call 41; refine (refLetter_in K _).mono ?_; rintro e w' ⟨rfl, rfl⟩)
              go_ret
              exact ⟨by rw [HQ.out]; rfl, (Below.refl _ _).alloc (Nat.le_refl _) _⟩
            · have A2 := ltzC a2
              rw [a2] at hq
              have HQ := Lib.hid (show okK ⟨K, I, N, C⟩ = true by rw [hq]; rfl)
              clear hq a1 a2
              go_enter Tryz.func42, Tryz.ntmps42
              go_wp2_with (go_at_call 41; refine (refLetter_in K _).mono ?_; rintro e w' ⟨rfl, rfl⟩)
              go_ret
              exact ⟨by rw [HQ.out]; rfl, (Below.refl _ _).alloc (Nat.le_refl _) _⟩
      · have hn := of_decide_eq_true k24
        have K3 := eqz3 (a := K) (q := false) (decide_eq_false (by omega))
        rw [if_neg (by omega), if_pos hn] at hq
        cases k2 : decide (K = 2)
        · have K2 := eqz2 k2
          have K4 := eqz4 (a := K) (q := true) (decide_eq_true (by have := of_decide_eq_false k2; omega))
          clear k24 hn k2 hk
          cases a1 : nb N
          · rw [a1] at hq HNm
            have HQ := Lib.hid (show okK ⟨K, I, N, C⟩ = false by rw [hq]; rfl)
            clear hq a1
            go_enter Tryz.func42, Tryz.ntmps42
            go_wp2_with (first | (go_at_call 41; refine (refLetter_in K _).mono ?_; rintro e w' ⟨rfl, rfl⟩) | (go_at_call 39; refine (HNm.out _).mono ?_; rintro e w' ⟨rfl, rfl⟩))
            go_ret
            exact ⟨by rw [HQ.out]; rfl, (Below.refl _ _).alloc (Nat.le_refl _) _⟩
          · rw [a1] at hq HNm
            cases a2 : decide (C = 0)
            · have A2 := eqz0 a2
              rw [a2] at hq
              have HQ := Lib.hid (show okK ⟨K, I, N, C⟩ = false by rw [hq]; rfl)
              clear hq a1 a2
              go_enter Tryz.func42, Tryz.ntmps42
              go_wp2_with (first | (go_at_call 41; refine (refLetter_in K _).mono ?_; rintro e w' ⟨rfl, rfl⟩) | (go_at_call 39; refine (HNm.out _).mono ?_; rintro e w' ⟨rfl, rfl⟩))
              go_ret
              exact ⟨by rw [HQ.out]; rfl, (Below.refl _ _).alloc (Nat.le_refl _) _⟩
            · have A2 := eqz0 a2
              rw [a2] at hq
              have HQ := Lib.hid (show okK ⟨K, I, N, C⟩ = true by rw [hq]; rfl)
              clear hq a1 a2
              go_enter Tryz.func42, Tryz.ntmps42
              go_wp2_with (first | (go_at_call 41; refine (refLetter_in K _).mono ?_; rintro e w' ⟨rfl, rfl⟩) | (go_at_call 39; refine (HNm.out _).mono ?_; rintro e w' ⟨rfl, rfl⟩))
              go_ret
              exact ⟨by rw [HQ.out]; rfl, (Below.refl _ _).alloc (Nat.le_refl _) _⟩
        · have K2 := eqz2 k2
          clear k24 hn k2 hk
          cases a1 : nb N
          · rw [a1] at hq HNm
            have HQ := Lib.hid (show okK ⟨K, I, N, C⟩ = false by rw [hq]; rfl)
            clear hq a1
            go_enter Tryz.func42, Tryz.ntmps42
            go_wp2_with (first | (go_at_call 41; refine (refLetter_in K _).mono ?_; rintro e w' ⟨rfl, rfl⟩) | (go_at_call 39; refine (HNm.out _).mono ?_; rintro e w' ⟨rfl, rfl⟩))
            go_ret
            exact ⟨by rw [HQ.out]; rfl, (Below.refl _ _).alloc (Nat.le_refl _) _⟩
          · rw [a1] at hq HNm
            cases a2 : decide (C = 0)
            · have A2 := eqz0 a2
              rw [a2] at hq
              have HQ := Lib.hid (show okK ⟨K, I, N, C⟩ = false by rw [hq]; rfl)
              clear hq a1 a2
              go_enter Tryz.func42, Tryz.ntmps42
              go_wp2_with (first | (go_at_call 41; refine (refLetter_in K _).mono ?_; rintro e w' ⟨rfl, rfl⟩) | (go_at_call 39; refine (HNm.out _).mono ?_; rintro e w' ⟨rfl, rfl⟩))
              go_ret
              exact ⟨by rw [HQ.out]; rfl, (Below.refl _ _).alloc (Nat.le_refl _) _⟩
            · have A2 := eqz0 a2
              rw [a2] at hq
              have HQ := Lib.hid (show okK ⟨K, I, N, C⟩ = true by rw [hq]; rfl)
              clear hq a1 a2
              go_enter Tryz.func42, Tryz.ntmps42
              go_wp2_with (first | (go_at_call 41; refine (refLetter_in K _).mono ?_; rintro e w' ⟨rfl, rfl⟩) | (go_at_call 39; refine (HNm.out _).mono ?_; rintro e w' ⟨rfl, rfl⟩))
              go_ret
              exact ⟨by rw [HQ.out]; rfl, (Below.refl _ _).alloc (Nat.le_refl _) _⟩
    · have I0 := eqz0 i0
      have i1 : decide (1 ≤ I) = false := decide_eq_false (by have := of_decide_eq_true i0; omega)
      rw [i1, Bool.false_and] at hq
      clear i1 i0
      cases k2 : decide (K = 2)
      · have K2 := eqz2 k2
        cases k4 : decide (K = 4)
        · have K4 := eqz4 k4
          have HQ := Lib.hid (show okK ⟨K, I, N, C⟩ = false by rw [hq])
          clear hq k2 k4 hk
          go_enter Tryz.func42, Tryz.ntmps42
          go_wp2_with (go_at_call 41; refine (refLetter_in K _).mono ?_; rintro e w' ⟨rfl, rfl⟩)
          go_ret
          exact ⟨by rw [HQ.out]; rfl, (Below.refl _ _).alloc (Nat.le_refl _) _⟩
        · have K4 := eqz4 k4
          have HQ := Lib.hid (show okK ⟨K, I, N, C⟩ = false by rw [hq])
          clear hq k2 k4 hk
          go_enter Tryz.func42, Tryz.ntmps42
          go_wp2_with (go_at_call 41; refine (refLetter_in K _).mono ?_; rintro e w' ⟨rfl, rfl⟩)
          go_ret
          exact ⟨by rw [HQ.out]; rfl, (Below.refl _ _).alloc (Nat.le_refl _) _⟩
      · have K2 := eqz2 k2
        have HQ := Lib.hid (show okK ⟨K, I, N, C⟩ = false by rw [hq])
        clear hq k2 hk
        go_enter Tryz.func42, Tryz.ntmps42
        go_wp2_with (go_at_call 41; refine (refLetter_in K _).mono ?_; rintro e w' ⟨rfl, rfl⟩)
        go_ret
        exact ⟨by rw [HQ.out]; rfl, (Below.refl _ _).alloc (Nat.le_refl _) _⟩
  · have e0 : (ltB K).size = 0 := by
      unfold ltB lt
      rw [if_neg (by omega), if_neg (by omega), if_neg (by omega), if_neg (by omega)]; rfl
    obtain ⟨e1, e2⟩ := emp_of (decide_eq_true e0)
    have e3 := emp_yes e0
    have K2 := eqz2 (a := K) (q := false) (decide_eq_false (by omega))
    have K4 := eqz4 (a := K) (q := false) (decide_eq_false (by omega))
    rw [if_neg (by omega), if_neg (by omega), if_neg (by omega), Bool.and_false] at hq
    clear e0
    have HQ := Lib.hid (show okK ⟨K, I, N, C⟩ = false by rw [hq])
    clear hq hk
    go_enter Tryz.func42, Tryz.ntmps42
    go_wp2_with (go_at_call 41; refine (refLetter_in K _).mono ?_; rintro e w' ⟨rfl, rfl⟩)
    go_ret
    exact ⟨by rw [HQ.out]; rfl, (Below.refl _ _).alloc (Nat.le_refl _) _⟩
set_option maxRecDepth 100000 in
set_option maxHeartbeats 2000000 in
theorem refKey_in (k : Ky) (hl : k.lim) (hNm : k.N.size ≤ maxLen) (w : World) :
    Calls Tryz.prog 33 #[vK k] w fun e w' => e = .returned (.tuple #[.string (enK k), .int .i64 (chK k)]) ∧ Below w.heap.size w w' := by
  obtain ⟨K, I, N, C⟩ := k
  have HC := Lib.hid (refRight_in ⟨K, I, N, C⟩ hl hNm)
  obtain ⟨l1, l2, l3⟩ := hl
  dsimp only at l1 l2 l3
  have C0 := box_cell w #[.int .u8 K, .int .u32 I, .string N, .int .u32 C] 75 0 rfl
  have C1 := box_cell w #[.int .u8 K, .int .u32 I, .string N, .int .u32 C] 75 1 rfl
  have C2 := box_cell w #[.int .u8 K, .int .u32 I, .string N, .int .u32 C] 75 2 rfl
  have C3 := box_cell w #[.int .u8 K, .int .u32 I, .string N, .int .u32 C] 75 3 rfl
  have B0 := Lib.hid ((Below.refl w.heap.size w).alloc (Nat.le_refl _) (.cells #[.int .u8 K, .int .u32 I, .string N, .int .u32 C] 75))
  have hsz : w.heap.size < (w.alloc (.cells #[.int .u8 K, .int .u32 I, .string N, .int .u32 C] 75)).heap.size := by simp
  unfold vK
  dsimp only
  cases hq : okK ⟨K, I, N, C⟩
  · have HQ := Lib.hid (chK_no hq)
    rw [hq] at HC
    clear hq
    go_enter Tryz.func33, Tryz.ntmps33
    go_wp2_with fail
    change Calls _ _ _ (w.alloc (.cells #[.int .u8 K, .int .u32 I, .string N, .int .u32 C] 75)) _
    generalize w.alloc (.cells #[.int .u8 K, .int .u32 I, .string N, .int .u32 C] 75) = W at *
    refine (HC.out W).mono ?_
    rintro e w1 ⟨rfl, hb⟩
    have B1 := Lib.hid (B0.out.trans (hb.mono B0.out.size))
    clear C0 C1 C2 C3 hb B0 HC
    go_wp2
    go_ret2
    exact ⟨by rw [HQ.out.1, HQ.out.2]; rfl, B1.out⟩
  · have HQ := Lib.hid (chK_yes hq)
    have ht : N.size ≤ 24 := okK_size hq
    have HP := Lib.hid (fun w => refPrefix_in K I l2 w)
    have HN := Lib.hid (fun w => ref_bytes C 4 w (by omega) (by omega))
    have HU := Lib.hid (u64_id (n := C) (by omega))
    have pz := pfx_size K I
    have cz : (bs (be 4 C)).size = 4 := by rw [bs_size, be_length]
    rw [hq] at HC
    clear hq
    go_enter Tryz.func33, Tryz.ntmps33
    go_wp2_with fail
    change Calls _ _ _ (w.alloc (.cells #[.int .u8 K, .int .u32 I, .string N, .int .u32 C] 75)) _
    obtain ⟨b0, hb0⟩ : ∃ b, w.heap.size = b := ⟨_, rfl⟩
    have HB0 := Lib.hid hb0
    rw [hb0] at C0 C1 C2 C3 B0 hsz ⊢
    clear hb0
    generalize w.alloc (.cells #[.int .u8 K, .int .u32 I, .string N, .int .u32 C] 75) = W at *
    refine (HC.out W).mono ?_
    rintro e w1 ⟨rfl, hb⟩
    have D0 := (Below.cell hb (p := ⟨b0, 0, none⟩) hsz).trans C0
    have D1 := (Below.cell hb (p := ⟨b0, 1, none⟩) hsz).trans C1
    have D2 := (Below.cell hb (p := ⟨b0, 2, none⟩) hsz).trans C2
    have D3 := (Below.cell hb (p := ⟨b0, 3, none⟩) hsz).trans C3
    have B1 := Lib.hid (B0.out.trans (hb.mono (Nat.le_of_lt hsz)))
    have hbl : b0 < w1.heap.size := Nat.lt_of_lt_of_le hsz hb.size
    clear C0 C1 C2 C3 hb B0 HC hsz
    obtain ⟨P, hP⟩ : ∃ P, pfx K I = P := ⟨_, rfl⟩
    rw [hP] at HP pz
    have HPP := Lib.hid hP
    clear hP
    go_wp2_with fail
    refine wp_region_G (fun w' => Below w1.heap.size w1 w') (by kernel_rfl) (by kernel_rfl) (Below.refl _ _).drew ?_
    refine wpG_val (.pointer (some ⟨b0, 0, none⟩)) rfl (by rfl) (fun w' hSw => by go_simp) ?_
    simp only [List.setIfInBounds_toArray, List.set_cons_zero, List.set_cons_succ]
    refine wpG_val (.int .u8 K) rfl (by rfl) (fun w' hSw => by have c := (Below.cell hSw (p := ⟨b0, 0, none⟩) hbl).trans D0; go_simp) ?_
    simp only [List.setIfInBounds_toArray, List.set_cons_zero, List.set_cons_succ]
    refine wpG_val (.pointer (some ⟨b0, 1, none⟩)) rfl (by rfl) (fun w' hSw => by go_simp) ?_
    simp only [List.setIfInBounds_toArray, List.set_cons_zero, List.set_cons_succ]
    refine wpG_val (.int .u32 I) rfl (by rfl) (fun w' hSw => by have c := (Below.cell hSw (p := ⟨b0, 1, none⟩) hbl).trans D1; go_simp) ?_
    simp only [List.setIfInBounds_toArray, List.set_cons_zero, List.set_cons_succ]
    refine wpG_call (.string P) 48 #[.int .u8 K, .int .u32 I] rfl (by rfl) (fun w' => by go_simp) (fun w' hSw => (HP.out w').mono fun e w2 h => ⟨h.1, hSw.trans (h.2.mono hSw.size)⟩) ?_
    simp only [List.setIfInBounds_toArray, List.set_cons_zero, List.set_cons_succ]
    refine wpG_val (.pointer (some ⟨b0, 2, none⟩)) rfl (by rfl) (fun w' hSw => by go_simp) ?_
    simp only [List.setIfInBounds_toArray, List.set_cons_zero, List.set_cons_succ]
    refine wpG_val (.string N) rfl (by rfl) (fun w' hSw => by have c := (Below.cell hSw (p := ⟨b0, 2, none⟩) hbl).trans D2; go_simp) ?_
    simp only [List.setIfInBounds_toArray, List.set_cons_zero, List.set_cons_succ]
    refine wpG_val (.string (P ++ N)) rfl (by rfl) (fun w' hSw => by go_simp <;> omega) ?_
    simp only [List.setIfInBounds_toArray, List.set_cons_zero, List.set_cons_succ]
    refine wpG_val (.string (P ++ N)) rfl (by rfl) (fun w' hSw => by go_simp) ?_
    simp only [List.setIfInBounds_toArray, List.set_cons_zero, List.set_cons_succ]
    refine wpG_nil ?_
    intro w2 hSw
    have E0 := (Below.cell hSw (p := ⟨b0, 0, none⟩) hbl).trans D0
    have E3 := (Below.cell hSw (p := ⟨b0, 3, none⟩) hbl).trans D3
    have B2 := Lib.hid (B1.out.trans (hSw.mono (Nat.le_of_lt hbl)))
    have hbl1 : b0 < w2.heap.size := Nat.lt_of_lt_of_le hbl hSw.size
    clear D0 D1 D2 D3 hSw B1 HP
    cases k3 : decide (K = 3)
    · have K3 := eqz3 k3
      have HW := Lib.hid (show wrK ⟨K, I, N, C⟩ = P ++ N by unfold wrK; dsimp only; rw [if_neg (of_decide_eq_false k3), HPP.out])
      clear k3
      go_wp2
      go_ret2
      exact ⟨by rw [HQ.out.1, HQ.out.2, HW.out]; rfl, by rw [HB0.out]; exact B2.out⟩
    · have K3 := eqz3 k3
      have HW := Lib.hid (show wrK ⟨K, I, N, C⟩ = P ++ N ++ bs (be 4 C) by unfold wrK; dsimp only; rw [if_pos (of_decide_eq_true k3), HPP.out])
      clear k3
      have u := HU.out
      go_wp2_with (go_at_call 49; refine (HN.out _).mono ?_; rintro e w' ⟨rfl, hb⟩)
      go_ret2
      exact ⟨by rw [HQ.out.1, HQ.out.2, HW.out]; rfl, by rw [HB0.out]; exact B2.out.trans (hb.mono (Nat.le_of_lt hbl1))⟩
end Go.Proofs.YtngcogjjcidccaaGreat.Ino
