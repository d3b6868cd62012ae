/- The walk of the law on what digits are. -/
import Derived.Test.YteelickbdigpkaaHexN
import Derived.Test.YteelickbdigpkaaReg
namespace Go.Proofs.Yteelickbdigpkaa.Hc
set_option linter.unusedVariables false
open Go.ChangeShapes Go.WideShapes Go.ChangeAt Go.RowKit
open Pk (u8s u8s_length u8s_set u8s_get)
open Rg
theorem byte_of_wf' {k : Int} (h : (Lit.int .u8 k).wf = true) : ∃ c : Nat, k = c ∧ c < 256 := by
  simp [Lit.wf, IntKind.min, IntKind.max, IntKind.bits, IntKind.signed] at h
  exact ⟨k.toNat, by omega, by omega⟩
theorem conv_cell {W : World} {g c : Nat} {M : ByteArray} (hc : c < 256) (hM : M = ⟨#[UInt8.ofNat c]⟩) (h : W.cell? ⟨g, 0, none⟩ = some (.int .u8 c)) : (convert 29 9 (.slice (some ⟨g, 0, none⟩) 1 1)).run Try.prog W = .ok (.string M) W := by
  subst hM
  exact run_convert_bytes_back (P := Try.prog) W 29 9 5 ⟨g, 0, none⟩ 1 [UInt8.ofNat c] Try.underlying29 Try.underlying5 Try.underlying9 (by
    intro j hj
    obtain rfl : j = 0 := by simpa using hj
    have : (⟨g, 0, none⟩ : Addr).add 0 = ⟨g, 0, none⟩ := by unfold Addr.add; simp
    rw [this, h]
    simp
    omega)
theorem sealed {X L R M : ByteArray} {c k : Nat} (hX : X.size = 64) (hk : k < 64) (hc : c < 256) (hXk : ∀ i : Nat, ∀ h : i < X.size, dOk (X[i]'h).toNat = true) (hL : X.extract 0 k = L) (hR : X.extract (k + 1) 64 = R) (hM : M = ⟨#[UInt8.ofNat c]⟩) :
    pE ((L ++ M) ++ R).data.toList = if dOk c = true then 0 else 4 := by
  have hlX : X.data.toList.length = 64 := by simpa using hX
  have e : ((L ++ M) ++ R).data.toList = X.data.toList.take k ++ (UInt8.ofNat c :: X.data.toList.drop (k + 1)) := by
    rw [← hL, ← hR, hM]
    simp only [ByteArray.data_append, ByteArray.data_extract, Array.toList_append, Array.toList_extract]
    simp [List.extract]
    rw [List.take_of_length_le (by simp; omega)]
  have hall : allOk X.data.toList = true := allOk_of fun i hi a ha => by
    rw [List.getElem?_eq_getElem hi] at ha
    have := hXk i (by simpa using hi)
    rw [← Option.some.inj ha]
    exact this
  have hcc : (UInt8.ofNat c).toNat = c := by rw [UInt8.toNat_ofNat']; omega
  have hlen : (X.data.toList.take k ++ (UInt8.ofNat c :: X.data.toList.drop (k + 1))).length = 64 := by
    rw [List.length_append, List.length_take, List.length_cons, List.length_drop]; omega
  unfold allOk at hall
  rw [List.all_eq_true] at hall
  rw [e]
  unfold pE pOk
  rw [hlen]
  by_cases hd : dOk c = true
  · rw [if_pos hd, if_pos]
    simp only [decide_true, Bool.true_and]
    unfold allOk
    rw [List.all_append, List.all_cons, hcc, hd, Bool.true_and, Bool.and_eq_true, List.all_eq_true, List.all_eq_true]
    exact ⟨fun a ha => hall a (List.mem_of_mem_take ha), fun a ha => hall a (List.mem_of_mem_drop ha)⟩
  · rw [if_neg hd, if_neg]
    intro h
    simp only [decide_true, Bool.true_and] at h
    unfold allOk at h
    rw [List.all_append, List.all_cons, hcc, Bool.and_eq_true, Bool.and_eq_true] at h
    exact hd h.2.1
set_option maxRecDepth 100000 in
set_option maxHeartbeats 4000000 in
theorem hashDigits_walk (l : List UInt8) (hl : l.length = 32) (at_ b : Int) (ha : (Lit.int .i64 at_).wf = true) (hb : (Lit.int .u8 b).wf = true) (w : World) :
    Calls Try.prog 6 #[.agg (u8s l).toArray, .int .i64 at_, .int .u8 b] w fun e w' => e = .returned (.bool true) ∧ Below w.heap.size w w' := by
  obtain ⟨X, hX⟩ : ∃ X : ByteArray, X = ⟨(hexL l).toArray⟩ := ⟨_, rfl⟩
  obtain ⟨A, hA⟩ : ∃ A, A = (u8s l).toArray := ⟨_, rfl⟩
  have hXs : X.size = 64 := by rw [hX]; show (hexL l).toArray.size = 64; rw [List.size_toArray, hexL_length, hl]
  have hXd : X.data.toList = hexL l := by rw [hX]
  have hXk : ∀ i : Nat, ∀ h : i < X.size, dOk (X[i]'h).toNat = true := by
    intro i h
    refine allOk_get (s := X.data.toList) (by rw [hXd]; exact allOk_hex l) (i := i) ?_
    rw [List.getElem?_eq_getElem (by simpa using h)]
    rfl
  rw [← hA]
  have HX := Lib.hid hX
  have HXD := Lib.hid hXd
  have HXK := Lib.hid hXk
  have HA := Lib.hid hA
  have HRA := Lib.hid (arr_row hA hl)
  have A0 := Lib.hid (show At (w.alloc (.cells A 22)) w.heap.size A from heap_alloc_new w _)
  have B0 := Lib.hid ((Below.refl w.heap.size w).alloc (Nat.le_refl _) (.cells A 22))
  clear hX hA hXd hXk
  go_enter Try.func6, Try.ntmps6
  go_wp2_with fail
  generalize w.alloc (.cells A 22) = V0 at *
  refine (codes_any _).mono ?_
  rintro e w1 ⟨rfl, hb1⟩
  have A1 := Lib.hid (A0.out.below hb1)
  have B1 := Lib.hid (B0.out.trans (hb1.mono (Nat.le_of_lt A0.out.lt)))
  clear hb1 A0 B0
  have h64 : ((64 : Int) != 64) = false := rfl
  go_wp2_with (first
    | (refine wpList_load_row rfl 22 (.tmp 3) rfl w.heap.size rfl 22 A (0, 0) _ A1.out Try.underlying22 rfl HRA.out.1 ?_)
    | (go_at_call 10; (with_reducible refine (hex_same l hl A HA.out X HX.out _).mono ?_); rintro e w2 ⟨rfl, hb2⟩; have B2 := Lib.hid (B1.out.trans (hb2.mono (Nat.le_of_lt A1.out.lt))); clear hb2))
  go_loop [20] (fun v => ∃ i : Nat, i ≤ 64 ∧ v = .int .i64 i) (fun v => 64 - (intOf v).toNat)
  case atStart => exact ⟨0, Nat.zero_le _, rfl⟩
  case round =>
    obtain ⟨i, hi, rfl⟩ := hrel
    by_cases hlt : i < 64
    · have hix : i < X.size := by omega
      have hk := HXK.out i hix
      unfold dOk at hk
      simp only [decide_eq_true_eq] at hk
      rcases hk with ⟨h1, h2⟩ | ⟨h1, h2⟩
      · have g1 : (48 : Int) ≤ (X[i]).toNat := by omega
        have g2 : ((X[i]).toNat : Int) ≤ 57 := by omega
        go_wp2
        go_round
        case rel => exact ⟨i + 1, by omega, by go_num⟩
        case measure => simp [intOf]; omega
      · have g1 : (97 : Int) ≤ (X[i]).toNat := by omega
        have g2 : ((X[i]).toNat : Int) ≤ 102 := by omega
        go_wp2
        go_round
        case rel => exact ⟨i + 1, by omega, by go_num⟩
        case measure => simp [intOf]; omega
    · obtain rfl : i = 64 := by omega
      by_cases hr : 0 ≤ at_ ∧ at_ < 64
      · obtain ⟨k, rfl⟩ : ∃ k : Nat, at_ = k := ⟨at_.toNat, by omega⟩
        obtain ⟨c, rfl, hc⟩ := byte_of_wf' hb
        have hk : k < 64 := by omega
        have r0 : (0 : Int) ≤ (k : Int) := by omega
        have r1 : (k : Int) < 64 := by omega
        have r3 : (0 : Int) ≤ (k : Int) + 1 := by omega
        have r4 : (k : Int) + 1 ≤ 64 := by omega
        obtain ⟨L, hL⟩ : ∃ L : ByteArray, L = X.extract 0 k := ⟨_, rfl⟩
        obtain ⟨R, hR⟩ : ∃ R : ByteArray, R = X.extract (k + 1) 64 := ⟨_, rfl⟩
        obtain ⟨M, hM⟩ : ∃ M : ByteArray, M = ⟨#[UInt8.ofNat c]⟩ := ⟨_, rfl⟩
        have zL : L.size = k := by rw [hL, ByteArray.size_extract]; omega
        have zR : R.size = 63 - k := by rw [hR, ByteArray.size_extract]; omega
        have zM : M.size = 1 := by rw [hM]; rfl
        have HL := Lib.hid hL.symm
        have HR := Lib.hid hR.symm
        have HM := Lib.hid hM
        clear hL hR hM ha hb
        go_wp2_with fail
        have eL := HL.out
        have eR := HR.out
        have bb := B2.out
        have hT := sealed hXs hk hc HXK.out HL.out HR.out HM.out
        have zT : ((L ++ M) ++ R).size = 64 := by rw [ByteArray.size_append, ByteArray.size_append]; omega
        have zT' : ((L ++ M) ++ R).size ≤ maxLen := by rw [zT]; unfold maxLen; omega
        generalize hE : pE ((L ++ M) ++ R).data.toList = E at *
        have HE := Lib.hid hE
        have HC3 := Lib.hid (show ((48 : Int) ≤ c ∧ (c : Int) ≤ 57 ∧ E = 0) ∨ ((97 : Int) ≤ c ∧ (c : Int) ≤ 102 ∧ E = 0) ∨ ((0 : Int) ≤ c ∧ (c : Int) < 48 ∧ E = 4) ∨ ((57 : Int) < c ∧ (c : Int) < 97 ∧ E = 4) ∨ ((102 : Int) < c ∧ (c : Int) ≤ 255 ∧ E = 4) by
          rw [hT]
          unfold dOk
          simp only [decide_eq_true_eq]
          split <;> omega)
        clear hE hT
        refine wp_region_held_drew (S := fun w' => Below w.heap.size w w') (by kernel_rfl) bb.drew (fun hHeld => ?_)
        refine take_at 0 53 (.string X) rfl (by rfl) (by kernel_rfl) (by kernel_rfl) (by kernel_rfl) (fun _ _ _ h => h) (Or.inl ⟨by rfl, fun w' hSw => by go_simp⟩) (by assumption) ?_
        simp only [List.setIfInBounds_toArray, List.set_cons_zero, List.set_cons_succ]
        refine take_at 1 54 (.int .i64 k) rfl (by rfl) (by kernel_rfl) (by kernel_rfl) (by kernel_rfl) (fun _ _ _ h => h) (Or.inl ⟨by rfl, fun w' hSw => by go_simp⟩) (by assumption) ?_
        simp only [List.setIfInBounds_toArray, List.set_cons_zero, List.set_cons_succ]
        refine take_at 3 56 (.int .u8 c) rfl (by rfl) (by kernel_rfl) (by kernel_rfl) (by kernel_rfl) (fun _ _ _ h => h) (Or.inl ⟨by rfl, fun w' hSw => by go_simp⟩) (by assumption) ?_
        simp only [List.setIfInBounds_toArray, List.set_cons_zero, List.set_cons_succ]
        refine take_at 7 60 (.string X) rfl (by rfl) (by kernel_rfl) (by kernel_rfl) (by kernel_rfl) (fun _ _ _ h => h) (Or.inl ⟨by rfl, fun w' hSw => by go_simp⟩) (by assumption) ?_
        simp only [List.setIfInBounds_toArray, List.set_cons_zero, List.set_cons_succ]
        refine take_at 8 61 (.int .i64 k) rfl (by rfl) (by kernel_rfl) (by kernel_rfl) (by kernel_rfl) (fun _ _ _ h => h) (Or.inl ⟨by rfl, fun w' hSw => by go_simp⟩) (by assumption) ?_
        simp only [List.setIfInBounds_toArray, List.set_cons_zero, List.set_cons_succ]
        refine take_at 9 62 (.int .i64 ((k : Int) + 1)) rfl (by rfl) (by kernel_rfl) (by kernel_rfl) (by kernel_rfl) (fun _ _ _ h => h) (Or.inl ⟨by rfl, fun w' hSw => by go_simp; exact IntWalk.i64_in _ ⟨by omega, by omega⟩⟩) (by assumption) ?_
        simp only [List.setIfInBounds_toArray, List.set_cons_zero, List.set_cons_succ]
        refine take_at 2 55 (.string L) rfl (by rfl) (by kernel_rfl) (by kernel_rfl) (by kernel_rfl) (fun _ _ _ h => h) (Or.inl ⟨by rfl, fun w' hSw => by go_simp; intro h; exfalso; omega⟩) (by assumption) ?_
        simp only [List.setIfInBounds_toArray, List.set_cons_zero, List.set_cons_succ]
        refine take_at 10 63 (.string R) rfl (by rfl) (by kernel_rfl) (by kernel_rfl) (by kernel_rfl) (fun _ _ _ h => h) (Or.inl ⟨by rfl, fun w' hSw => by go_simp⟩) (by assumption) ?_
        simp only [List.setIfInBounds_toArray, List.set_cons_zero, List.set_cons_succ]
        generalize w2.drew = U at *
        refine wpAnyH_ready (rs := [4, 16]) (by kernel_rfl) (by simp) ?_
        refine all_at 4 57 (.slice (some ⟨U.heap.size, 0, none⟩) 1 1) (U.alloc (.cells #[.int .u8 c] 5)) rfl (by rfl) (by rfl) (by go_simp) (hHeld.alloc hHeld.size _) (fun hHeld => ?_) ?_
        · have c4 : (U.alloc (.cells #[.int .u8 c] 5)).cell? ⟨U.heap.size, 0, none⟩ = some (.int .u8 c) := cell_of_row _ U.heap.size 0 #[.int .u8 c] 5 (0, 0) (heap_alloc_new U _)
          simp only [List.setIfInBounds_toArray, List.set_cons_zero, List.set_cons_succ]
          generalize U.alloc (.cells #[.int .u8 c] 5) = U1 at *
          generalize U.heap.size = g4 at *
          refine wpAnyH_ready (rs := [5, 16]) (by kernel_rfl) (by simp) ?_
          refine all_at 5 58 (.string M) U1 rfl (by rfl) (by rfl) (by have hcv := conv_cell hc HM.out c4; go_simp) hHeld (fun hHeld => ?_) ?_
          · simp only [List.setIfInBounds_toArray, List.set_cons_zero, List.set_cons_succ]
            refine take_at 6 59 (.string (L ++ M)) rfl (by rfl) (by kernel_rfl) (by kernel_rfl) (by kernel_rfl) (fun _ _ _ h => h) (Or.inl ⟨by rfl, fun w' hSw => by go_simp <;> omega⟩) (by assumption) ?_
            simp only [List.setIfInBounds_toArray, List.set_cons_zero, List.set_cons_succ]
            refine take_at 11 64 (.string ((L ++ M) ++ R)) rfl (by rfl) (by kernel_rfl) (by kernel_rfl) (by kernel_rfl) (fun _ _ _ h => h) (Or.inl ⟨by rfl, fun w' hSw => by go_simp <;> omega⟩) (by assumption) ?_
            simp only [List.setIfInBounds_toArray, List.set_cons_zero, List.set_cons_succ]
            refine wpAnyH_ready (rs := [12, 16]) (by kernel_rfl) (by simp) ?_
            refine AllReadyH.cons rfl (fun K hK => ?_) ?_
            · go_simp
              go_wp2_with (go_at_call 7; (with_reducible refine (parse_any _ zT' _).mono ?_); rintro e U2 ⟨C, hC, rfl, hb5⟩; rw [HE.out]; have HC := Lib.hid hC; clear hC)
              refine hK.out _ _ (hHeld.trans (hb5.mono hHeld.size)) (fun hHeld => ?_)
              clear hK K
              have hRC := arr_row HC.out (pA_length _)
              refine take_at 13 52 (.tuple #[.agg C, .int .i64 E]) rfl (by rfl) (by kernel_rfl) (by kernel_rfl) (by kernel_rfl) (fun _ _ _ h => h) (Or.inl ⟨by rfl, fun w' hSw => by go_simp⟩) (by assumption) ?_
              simp only [List.setIfInBounds_toArray, List.set_cons_zero, List.set_cons_succ]
              refine take_at 14 66 (.agg C) rfl (by rfl) (by kernel_rfl) (by kernel_rfl) (by kernel_rfl) (fun _ _ _ h => h) (Or.inl ⟨by rfl, fun w' hSw => by go_simp⟩) (by assumption) ?_
              simp only [List.setIfInBounds_toArray, List.set_cons_zero, List.set_cons_succ]
              refine take_at 15 67 (.int .i64 E) rfl (by rfl) (by kernel_rfl) (by kernel_rfl) (by kernel_rfl) (fun _ _ _ h => h) (Or.inl ⟨by rfl, fun w' hSw => by go_simp⟩) (by assumption) ?_
              simp only [List.setIfInBounds_toArray, List.set_cons_zero, List.set_cons_succ]
              refine wpAnyH_ready (rs := [16]) (by kernel_rfl) (by simp) ?_
              have l16 := hHeld.size
              refine all_at 16 9 (.pointer (some ⟨U2.heap.size, 0, none⟩)) (U2.alloc (.cells Z32 22)) rfl (by rfl) (by rfl) (alloc_run _ _ rfl _) (hHeld.alloc hHeld.size _) (fun hHeld => ?_) all_nil
              have r16 : At (U2.alloc (.cells Z32 22)) U2.heap.size Z32 := heap_alloc_new U2 _
              simp only [List.setIfInBounds_toArray, List.set_cons_zero, List.set_cons_succ]
              generalize U2.alloc (.cells Z32 22) = U3 at *
              generalize U2.heap.size = g16 at *
              refine wpAnyH_ready (rs := [17]) (by kernel_rfl) (by simp) ?_
              refine all_wp 17 _ (U3.setRow g16 C) rfl (by rfl) (fun K' hk => wp_store_row 22 (.tmp 9) (.tmp 66) rfl g16 C rfl rfl 22 Z32 r16 hRC.1 hRC.2.1 hRC.2.2 hk) (below_setRow hHeld l16 C) (fun hHeld => ?_) all_nil
              simp only [Act.put, List.setIfInBounds_toArray]
              refine take_at 18 10 (.int .i64 E) rfl (by rfl) (by kernel_rfl) (by kernel_rfl) (by kernel_rfl) (fun _ _ _ h => h) (Or.inl ⟨by rfl, fun w' hSw => by go_simp⟩) (by assumption) ?_
              simp only [List.setIfInBounds_toArray, List.set_cons_zero, List.set_cons_succ]
              refine wpAnyH_done (by kernel_rfl) ?_ _
              have hfin := hHeld
              rcases HC3.out with ⟨h1, h2, rfl⟩ | ⟨h1, h2, rfl⟩ | ⟨h1, h2, rfl⟩ | ⟨h1, h2, rfl⟩ | ⟨h1, h2, rfl⟩
              all_goals
                go_wp2
                go_ret
                exact ⟨by first | rfl | (simp; omega), hfin⟩
            have l16 := hHeld.size
            refine all_at 16 9 (.pointer (some ⟨U1.heap.size, 0, none⟩)) (U1.alloc (.cells Z32 22)) rfl (by rfl) (by rfl) (alloc_run _ _ rfl _) (hHeld.alloc hHeld.size _) (fun hHeld => ?_) all_nil
            have r16 : At (U1.alloc (.cells Z32 22)) U1.heap.size Z32 := heap_alloc_new U1 _
            simp only [List.setIfInBounds_toArray, List.set_cons_zero, List.set_cons_succ]
            generalize U1.alloc (.cells Z32 22) = U4 at *
            generalize U1.heap.size = g16 at *
            refine wpAnyH_ready (rs := [12]) (by kernel_rfl) (by simp) ?_
            refine AllReadyH.cons rfl (fun K hK => ?_) all_nil
            go_simp
            go_wp2_with (go_at_call 7; (with_reducible refine (parse_any _ zT' _).mono ?_); rintro e U5 ⟨C, hC, rfl, hb5⟩; rw [HE.out]; have HC := Lib.hid hC; clear hC; have r16 := r16.below hb5)
            refine hK.out _ _ (hHeld.trans (hb5.mono hHeld.size)) (fun hHeld => ?_)
            clear hK K
            have hRC := arr_row HC.out (pA_length _)
            refine take_at 13 52 (.tuple #[.agg C, .int .i64 E]) rfl (by rfl) (by kernel_rfl) (by kernel_rfl) (by kernel_rfl) (fun _ _ _ h => h) (Or.inl ⟨by rfl, fun w' hSw => by go_simp⟩) (by assumption) ?_
            simp only [List.setIfInBounds_toArray, List.set_cons_zero, List.set_cons_succ]
            refine take_at 14 66 (.agg C) rfl (by rfl) (by kernel_rfl) (by kernel_rfl) (by kernel_rfl) (fun _ _ _ h => h) (Or.inl ⟨by rfl, fun w' hSw => by go_simp⟩) (by assumption) ?_
            simp only [List.setIfInBounds_toArray, List.set_cons_zero, List.set_cons_succ]
            refine take_at 15 67 (.int .i64 E) rfl (by rfl) (by kernel_rfl) (by kernel_rfl) (by kernel_rfl) (fun _ _ _ h => h) (Or.inl ⟨by rfl, fun w' hSw => by go_simp⟩) (by assumption) ?_
            simp only [List.setIfInBounds_toArray, List.set_cons_zero, List.set_cons_succ]
            refine wpAnyH_ready (rs := [17]) (by kernel_rfl) (by simp) ?_
            refine all_wp 17 _ (U5.setRow g16 C) rfl (by rfl) (fun K' hk => wp_store_row 22 (.tmp 9) (.tmp 66) rfl g16 C rfl rfl 22 Z32 r16 hRC.1 hRC.2.1 hRC.2.2 hk) (below_setRow hHeld l16 C) (fun hHeld => ?_) all_nil
            simp only [Act.put, List.setIfInBounds_toArray]
            refine take_at 18 10 (.int .i64 E) rfl (by rfl) (by kernel_rfl) (by kernel_rfl) (by kernel_rfl) (fun _ _ _ h => h) (Or.inl ⟨by rfl, fun w' hSw => by go_simp⟩) (by assumption) ?_
            simp only [List.setIfInBounds_toArray, List.set_cons_zero, List.set_cons_succ]
            refine wpAnyH_done (by kernel_rfl) ?_ _
            have hfin := hHeld
            rcases HC3.out with ⟨h1, h2, rfl⟩ | ⟨h1, h2, rfl⟩ | ⟨h1, h2, rfl⟩ | ⟨h1, h2, rfl⟩ | ⟨h1, h2, rfl⟩
            all_goals
              go_wp2
              go_ret
              exact ⟨by first | rfl | (simp; omega), hfin⟩
          have l16 := hHeld.size
          refine all_at 16 9 (.pointer (some ⟨U1.heap.size, 0, none⟩)) (U1.alloc (.cells Z32 22)) rfl (by rfl) (by rfl) (alloc_run _ _ rfl _) (hHeld.alloc hHeld.size _) (fun hHeld => ?_) all_nil
          have r16 : At (U1.alloc (.cells Z32 22)) U1.heap.size Z32 := heap_alloc_new U1 _
          have c4 := (World.cell?_alloc_some U1 _ (.cells Z32 22) (by rw [c4]; rfl)).trans c4
          simp only [List.setIfInBounds_toArray, List.set_cons_zero, List.set_cons_succ]
          generalize U1.alloc (.cells Z32 22) = U6 at *
          generalize U1.heap.size = g16 at *
          refine wpAnyH_ready (rs := [5]) (by kernel_rfl) (by simp) ?_
          refine all_at 5 58 (.string M) U6 rfl (by rfl) (by rfl) (by have hcv := conv_cell hc HM.out c4; go_simp) hHeld (fun hHeld => ?_) all_nil
          simp only [List.setIfInBounds_toArray, List.set_cons_zero, List.set_cons_succ]
          refine take_at 6 59 (.string (L ++ M)) rfl (by rfl) (by kernel_rfl) (by kernel_rfl) (by kernel_rfl) (fun _ _ _ h => h) (Or.inl ⟨by rfl, fun w' hSw => by go_simp <;> omega⟩) (by assumption) ?_
          simp only [List.setIfInBounds_toArray, List.set_cons_zero, List.set_cons_succ]
          refine take_at 11 64 (.string ((L ++ M) ++ R)) rfl (by rfl) (by kernel_rfl) (by kernel_rfl) (by kernel_rfl) (fun _ _ _ h => h) (Or.inl ⟨by rfl, fun w' hSw => by go_simp <;> omega⟩) (by assumption) ?_
          simp only [List.setIfInBounds_toArray, List.set_cons_zero, List.set_cons_succ]
          refine wpAnyH_ready (rs := [12]) (by kernel_rfl) (by simp) ?_
          refine AllReadyH.cons rfl (fun K hK => ?_) all_nil
          go_simp
          go_wp2_with (go_at_call 7; (with_reducible refine (parse_any _ zT' _).mono ?_); rintro e U7 ⟨C, hC, rfl, hb5⟩; rw [HE.out]; have HC := Lib.hid hC; clear hC; have r16 := r16.below hb5)
          refine hK.out _ _ (hHeld.trans (hb5.mono hHeld.size)) (fun hHeld => ?_)
          clear hK K
          have hRC := arr_row HC.out (pA_length _)
          refine take_at 13 52 (.tuple #[.agg C, .int .i64 E]) rfl (by rfl) (by kernel_rfl) (by kernel_rfl) (by kernel_rfl) (fun _ _ _ h => h) (Or.inl ⟨by rfl, fun w' hSw => by go_simp⟩) (by assumption) ?_
          simp only [List.setIfInBounds_toArray, List.set_cons_zero, List.set_cons_succ]
          refine take_at 14 66 (.agg C) rfl (by rfl) (by kernel_rfl) (by kernel_rfl) (by kernel_rfl) (fun _ _ _ h => h) (Or.inl ⟨by rfl, fun w' hSw => by go_simp⟩) (by assumption) ?_
          simp only [List.setIfInBounds_toArray, List.set_cons_zero, List.set_cons_succ]
          refine take_at 15 67 (.int .i64 E) rfl (by rfl) (by kernel_rfl) (by kernel_rfl) (by kernel_rfl) (fun _ _ _ h => h) (Or.inl ⟨by rfl, fun w' hSw => by go_simp⟩) (by assumption) ?_
          simp only [List.setIfInBounds_toArray, List.set_cons_zero, List.set_cons_succ]
          refine wpAnyH_ready (rs := [17]) (by kernel_rfl) (by simp) ?_
          refine all_wp 17 _ (U7.setRow g16 C) rfl (by rfl) (fun K' hk => wp_store_row 22 (.tmp 9) (.tmp 66) rfl g16 C rfl rfl 22 Z32 r16 hRC.1 hRC.2.1 hRC.2.2 hk) (below_setRow hHeld l16 C) (fun hHeld => ?_) all_nil
          simp only [Act.put, List.setIfInBounds_toArray]
          refine take_at 18 10 (.int .i64 E) rfl (by rfl) (by kernel_rfl) (by kernel_rfl) (by kernel_rfl) (fun _ _ _ h => h) (Or.inl ⟨by rfl, fun w' hSw => by go_simp⟩) (by assumption) ?_
          simp only [List.setIfInBounds_toArray, List.set_cons_zero, List.set_cons_succ]
          refine wpAnyH_done (by kernel_rfl) ?_ _
          have hfin := hHeld
          rcases HC3.out with ⟨h1, h2, rfl⟩ | ⟨h1, h2, rfl⟩ | ⟨h1, h2, rfl⟩ | ⟨h1, h2, rfl⟩ | ⟨h1, h2, rfl⟩
          all_goals
            go_wp2
            go_ret
            exact ⟨by first | rfl | (simp; omega), hfin⟩
        have l16 := hHeld.size
        refine all_at 16 9 (.pointer (some ⟨U.heap.size, 0, none⟩)) (U.alloc (.cells Z32 22)) rfl (by rfl) (by rfl) (alloc_run _ _ rfl _) (hHeld.alloc hHeld.size _) (fun hHeld => ?_) all_nil
        have r16 : At (U.alloc (.cells Z32 22)) U.heap.size Z32 := heap_alloc_new U _
        simp only [List.setIfInBounds_toArray, List.set_cons_zero, List.set_cons_succ]
        generalize U.alloc (.cells Z32 22) = U8 at *
        generalize U.heap.size = g16 at *
        refine wpAnyH_ready (rs := [4]) (by kernel_rfl) (by simp) ?_
        refine all_at 4 57 (.slice (some ⟨U8.heap.size, 0, none⟩) 1 1) (U8.alloc (.cells #[.int .u8 c] 5)) rfl (by rfl) (by rfl) (by go_simp) (hHeld.alloc hHeld.size _) (fun hHeld => ?_) all_nil
        have c4 : (U8.alloc (.cells #[.int .u8 c] 5)).cell? ⟨U8.heap.size, 0, none⟩ = some (.int .u8 c) := cell_of_row _ U8.heap.size 0 #[.int .u8 c] 5 (0, 0) (heap_alloc_new U8 _)
        have r16 : At (U8.alloc (.cells #[.int .u8 c] 5)) g16 Z32 := (Below.heap_alloc U8 _ g16 r16.lt).trans r16
        simp only [List.setIfInBounds_toArray, List.set_cons_zero, List.set_cons_succ]
        generalize U8.alloc (.cells #[.int .u8 c] 5) = U9 at *
        generalize U8.heap.size = g4 at *
        refine wpAnyH_ready (rs := [5]) (by kernel_rfl) (by simp) ?_
        refine all_at 5 58 (.string M) U9 rfl (by rfl) (by rfl) (by have hcv := conv_cell hc HM.out c4; go_simp) hHeld (fun hHeld => ?_) all_nil
        simp only [List.setIfInBounds_toArray, List.set_cons_zero, List.set_cons_succ]
        refine take_at 6 59 (.string (L ++ M)) rfl (by rfl) (by kernel_rfl) (by kernel_rfl) (by kernel_rfl) (fun _ _ _ h => h) (Or.inl ⟨by rfl, fun w' hSw => by go_simp <;> omega⟩) (by assumption) ?_
        simp only [List.setIfInBounds_toArray, List.set_cons_zero, List.set_cons_succ]
        refine take_at 11 64 (.string ((L ++ M) ++ R)) rfl (by rfl) (by kernel_rfl) (by kernel_rfl) (by kernel_rfl) (fun _ _ _ h => h) (Or.inl ⟨by rfl, fun w' hSw => by go_simp <;> omega⟩) (by assumption) ?_
        simp only [List.setIfInBounds_toArray, List.set_cons_zero, List.set_cons_succ]
        refine wpAnyH_ready (rs := [12]) (by kernel_rfl) (by simp) ?_
        refine AllReadyH.cons rfl (fun K hK => ?_) all_nil
        go_simp
        go_wp2_with (go_at_call 7; (with_reducible refine (parse_any _ zT' _).mono ?_); rintro e U10 ⟨C, hC, rfl, hb5⟩; rw [HE.out]; have HC := Lib.hid hC; clear hC; have r16 := r16.below hb5)
        refine hK.out _ _ (hHeld.trans (hb5.mono hHeld.size)) (fun hHeld => ?_)
        clear hK K
        have hRC := arr_row HC.out (pA_length _)
        refine take_at 13 52 (.tuple #[.agg C, .int .i64 E]) rfl (by rfl) (by kernel_rfl) (by kernel_rfl) (by kernel_rfl) (fun _ _ _ h => h) (Or.inl ⟨by rfl, fun w' hSw => by go_simp⟩) (by assumption) ?_
        simp only [List.setIfInBounds_toArray, List.set_cons_zero, List.set_cons_succ]
        refine take_at 14 66 (.agg C) rfl (by rfl) (by kernel_rfl) (by kernel_rfl) (by kernel_rfl) (fun _ _ _ h => h) (Or.inl ⟨by rfl, fun w' hSw => by go_simp⟩) (by assumption) ?_
        simp only [List.setIfInBounds_toArray, List.set_cons_zero, List.set_cons_succ]
        refine take_at 15 67 (.int .i64 E) rfl (by rfl) (by kernel_rfl) (by kernel_rfl) (by kernel_rfl) (fun _ _ _ h => h) (Or.inl ⟨by rfl, fun w' hSw => by go_simp⟩) (by assumption) ?_
        simp only [List.setIfInBounds_toArray, List.set_cons_zero, List.set_cons_succ]
        refine wpAnyH_ready (rs := [17]) (by kernel_rfl) (by simp) ?_
        refine all_wp 17 _ (U10.setRow g16 C) rfl (by rfl) (fun K' hk => wp_store_row 22 (.tmp 9) (.tmp 66) rfl g16 C rfl rfl 22 Z32 r16 hRC.1 hRC.2.1 hRC.2.2 hk) (below_setRow hHeld l16 C) (fun hHeld => ?_) all_nil
        simp only [Act.put, List.setIfInBounds_toArray]
        refine take_at 18 10 (.int .i64 E) rfl (by rfl) (by kernel_rfl) (by kernel_rfl) (by kernel_rfl) (fun _ _ _ h => h) (Or.inl ⟨by rfl, fun w' hSw => by go_simp⟩) (by assumption) ?_
        simp only [List.setIfInBounds_toArray, List.set_cons_zero, List.set_cons_succ]
        refine wpAnyH_done (by kernel_rfl) ?_ _
        have hfin := hHeld
        rcases HC3.out with ⟨h1, h2, rfl⟩ | ⟨h1, h2, rfl⟩ | ⟨h1, h2, rfl⟩ | ⟨h1, h2, rfl⟩ | ⟨h1, h2, rfl⟩
        all_goals
          go_wp2
          go_ret
          exact ⟨by first | rfl | (simp; omega), hfin⟩
      · have HR := Lib.hid hr
        have bb := B2.out
        clear hr
        by_cases hneg : at_ < 0
        · go_wp2
          go_ret
          exact ⟨rfl, bb⟩
        · have hge : 64 ≤ at_ := by have := HR.out; omega
          have hneg' : 0 ≤ at_ := by omega
          go_wp2
          go_ret
          exact ⟨rfl, bb⟩
end Go.Proofs.Yteelickbdigpkaa.Hc
