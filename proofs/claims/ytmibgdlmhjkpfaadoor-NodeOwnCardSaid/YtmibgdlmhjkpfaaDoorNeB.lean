/- The walks of NodeSizes, NodeBack, NodeApart. -/
import Derived.Test.YtmibgdlmhjkpfaaDoorNeA
namespace Go.Proofs.YtmibgdlmhjkpfaaDoor.Nd
set_option linter.unusedVariables false
set_option linter.unusedSimpArgs false
open Go.ChangeShapes Go.WideShapes Go.ChangeAt Go.RowKit
open Ar Rg
open BigFrame
open Pk (be num be_length u8s u8s_length)
open It (str_le below_drewN)
theorem ck_three (n : Nd) : ckN n = 0 ∨ (ckN n = 2 ∧ rtN n = true ∧ 508 < szN n) ∨ ckN n = 4 := by
  unfold ckN
  by_cases h : rtN n = true
  · rw [if_pos h]
    by_cases h2 : 508 < szN n
    · rw [if_pos h2]; exact .inr (.inl ⟨rfl, h, h2⟩)
    · rw [if_neg h2]; exact .inl rfl
  · rw [if_neg h]; exact .inr (.inr rfl)
theorem bs_inj {a b : List UInt8} (h : bs a = bs b) : a = b := by rw [← bs_data a, h, bs_data]
/-- a node argument, in its box -/
theorem boxed {w : World} {cs : Array Value} {n : Nd} (h : NdAt w cs n) : NVar (w.alloc (.cells cs 27)) w.heap.size cs n ∧ Below w.heap.size w (w.alloc (.cells cs 27)) :=
  ⟨⟨heap_alloc_new w _, h.below ((Below.refl _ _).alloc (Nat.le_refl _) _)⟩, (Below.refl _ _).alloc (Nat.le_refl _) _⟩
set_option maxRecDepth 100000 in
set_option maxHeartbeats 8000000 in
theorem nodeSizes_walk (n : Nd) (hw : Wd n) (cs : Array Value) (w : World) (hn : NdAt w cs n) :
    Calls Tryd.prog 5 #[.agg cs] w fun e w' => e = .returned (.bool true) ∧ Below w.heap.size w w' := by
  obtain ⟨hv0, hb0⟩ := boxed hn
  have HV1 := Lib.hid hv0
  have HB1 := Lib.hid hb0
  have HLV := Lib.hid (fun w => lives_true w)
  have HC0 := Lib.hid (fun w' (h : NdAt w' cs n) => encode_any n hw cs w' h)
  have HC1 := Lib.hid (fun w' (h : NdAt w' cs n) => check_any n hw cs w' h)
  clear hv0 hb0
  rcases ck_three n with hc | ⟨hc, hr, hz⟩ | hc
  · obtain ⟨hr, hz⟩ := ck_zero.1 hc
    obtain ⟨hl1, hl2⟩ := enc_len hw hc
    have HC2 := Lib.hid (fun w' (h : NdAt w' cs n) => size_any n (rt_few hr) cs w' h)
    rw [encB_yes hc, hc] at HC0
    rw [hc] at HC1
    rw [← bs_size] at hl2
    clear hl1 hc hr hn
    generalize bs (encN n) = S at *
    generalize szN n = Z at *
    have q1 : decide ((S.size : Int) ≤ (Z : Int) + 4) = true := by rw [decide_eq_true_iff]; omega
    have q2 : decide ((Z : Int) + 4 ≤ 512) = true := by rw [decide_eq_true_iff]; omega
    have q3 : (S.size : Int) ≤ (Z : Int) + 4 := by omega
    go_enter Tryd.func5, Tryd.ntmps5
    go_wp2_with (first
      | (go_at_call 8; refine (HLV.out _).mono ?_; rintro e w2 ⟨rfl, hb2⟩; have HV2 := Lib.hid (HV1.out.below hb2); have HB2 := Lib.hid (HB1.out.trans (hb2.mono HB1.out.size)); clear hb2)
      | (refine wpList_load_row rfl 27 (.tmp 1) rfl (w.heap.size) rfl 27 cs (0, 0) _ HV2.out.1 Tryd.underlying27 rfl HV2.out.info ?_)
      | (go_at_call 9; refine (HC0.out _ HV2.out.2).mono ?_; rintro e w3 ⟨rfl, hb3⟩; have HV3 := Lib.hid (HV2.out.below hb3); have HB3 := Lib.hid (HB2.out.trans (hb3.mono HB2.out.size)); clear hb3 HV2)
      | (refine wpList_load_row rfl 27 (.tmp 1) rfl (w.heap.size) rfl 27 cs (0, 0) _ HV3.out.1 Tryd.underlying27 rfl HV3.out.info ?_)
      | (go_at_call 13; refine (HC2.out _ HV3.out.2).mono ?_; rintro e w4 ⟨rfl, hb4, _⟩; have HV4 := Lib.hid (HV3.out.below hb4); have HB4 := Lib.hid (HB3.out.trans (hb4.mono HB3.out.size)); clear hb4 HV3)
      | (refine wpList_load_row_g 27 (.tmp 1) rfl (by kernel_rfl) (w.heap.size) rfl 27 cs (0, 0) _ HV4.out.1 Tryd.underlying27 rfl HV4.out.info ?_)
      | (go_at_call 13; refine (HC2.out _ HV4.out.2).mono ?_; rintro e w5 ⟨rfl, hb5, _⟩; have HV5 := Lib.hid (HV4.out.below hb5); have HB5 := Lib.hid (HB4.out.trans (hb5.mono HB4.out.size)); clear hb5 HV4)
      | (refine wpList_load_row_g 27 (.tmp 1) rfl (by kernel_rfl) (w.heap.size) rfl 27 cs (0, 0) _ HV5.out.1 Tryd.underlying27 rfl HV5.out.info ?_)
      | (go_at_call 12; refine (HC1.out _ HV5.out.2).mono ?_; rintro e w6 ⟨rfl, hb6⟩; have HB6 := Lib.hid (HB5.out.trans (hb6.mono HB5.out.size)); clear hb6))
    go_ret
    exact ⟨rfl, HB6.out⟩
  · have HC2 := Lib.hid (fun w' (h : NdAt w' cs n) => size_any n (rt_few hr) cs w' h)
    rw [encB_no (by rw [hc]; decide), hc] at HC0
    clear hc hr hn
    generalize szN n = Z at *
    have q2 : decide ((512 : Int) < (Z : Int) + 4) = true := by rw [decide_eq_true_iff]; omega
    go_enter Tryd.func5, Tryd.ntmps5
    go_wp2_with (first
      | (go_at_call 8; refine (HLV.out _).mono ?_; rintro e w2 ⟨rfl, hb2⟩; have HV2 := Lib.hid (HV1.out.below hb2); have HB2 := Lib.hid (HB1.out.trans (hb2.mono HB1.out.size)); clear hb2)
      | (refine wpList_load_row rfl 27 (.tmp 1) rfl (w.heap.size) rfl 27 cs (0, 0) _ HV2.out.1 Tryd.underlying27 rfl HV2.out.info ?_)
      | (go_at_call 9; refine (HC0.out _ HV2.out.2).mono ?_; rintro e w3 ⟨rfl, hb3⟩; have HV3 := Lib.hid (HV2.out.below hb3); have HB3 := Lib.hid (HB2.out.trans (hb3.mono HB2.out.size)); clear hb3 HV2)
      | (refine wpList_load_row rfl 27 (.tmp 1) rfl (w.heap.size) rfl 27 cs (0, 0) _ HV3.out.1 Tryd.underlying27 rfl HV3.out.info ?_)
      | (go_at_call 13; refine (HC2.out _ HV3.out.2).mono ?_; rintro e w4 ⟨rfl, hb4, hz4⟩; have HB4 := Lib.hid (HB3.out.trans (hb4.mono HB3.out.size)); clear hb4))
    go_ret
    exact ⟨rfl, HB4.out⟩
  · rw [encB_no (by rw [hc]; decide), hc] at HC0
    clear hc hn
    go_enter Tryd.func5, Tryd.ntmps5
    go_wp2_with (first
      | (go_at_call 8; refine (HLV.out _).mono ?_; rintro e w2 ⟨rfl, hb2⟩; have HV2 := Lib.hid (HV1.out.below hb2); have HB2 := Lib.hid (HB1.out.trans (hb2.mono HB1.out.size)); clear hb2)
      | (refine wpList_load_row rfl 27 (.tmp 1) rfl (w.heap.size) rfl 27 cs (0, 0) _ HV2.out.1 Tryd.underlying27 rfl HV2.out.info ?_)
      | (go_at_call 9; refine (HC0.out _ HV2.out.2).mono ?_; rintro e w3 ⟨rfl, hb3⟩; have HV3 := Lib.hid (HV2.out.below hb3); have HB3 := Lib.hid (HB2.out.trans (hb3.mono HB2.out.size)); clear hb3 HV2))
    go_ret
    exact ⟨rfl, HB3.out⟩
set_option maxRecDepth 100000 in
set_option maxHeartbeats 8000000 in
theorem nodeApart_walk (n m : Nd) (hw : Wd n) (hv : Wd m) (cs ds : Array Value) (w : World) (hn : NdAt w cs n) (hm : NdAt w ds m) :
    Calls Tryd.prog 6 #[.agg cs, .agg ds] w fun e w' => e = .returned (.bool true) ∧ Below w.heap.size w w' := by
  obtain ⟨hv0, hb0⟩ := boxed hn
  obtain ⟨hv9, hb9⟩ := boxed (hm.below hb0)
  have hsz : (w.alloc (.cells cs 27)).heap.size = w.heap.size + 1 := by simp
  rw [hsz] at hv9
  have HV1 := Lib.hid (hv0.below hb9)
  have HA1 := Lib.hid hv9
  have HB1 := Lib.hid (hb0.trans (hb9.mono hb0.size))
  have HLV := Lib.hid (fun w => lives_true w)
  have HC0 := Lib.hid (fun w' (h : NdAt w' cs n) => encode_any n hw cs w' h)
  have HC1 := Lib.hid (fun w' (h : NdAt w' ds m) => encode_any m hv ds w' h)
  have HC2 := Lib.hid (fun w' (h : NdAt w' cs n) (k : NdAt w' ds m) => same_any n m hw hv cs ds w' h k)
  clear hv0 hb0 hv9 hb9 hsz hn hm
  by_cases h1 : ckN n = 0
  · rw [encB_yes h1, h1] at HC0
    by_cases h2 : ckN m = 0
    · rw [encB_yes h2, h2] at HC1
      have hqe : (decide (bs (encN n) = bs (encN m))) = eqN n m := by
        rw [Bool.eq_iff_iff, decide_eq_true_iff, eqN_iff]
        exact ⟨fun h => enc_inj hw hv h1 h2 (bs_inj h), fun h => by rw [h]⟩
      have hq := str_same (bs (encN n)) (bs (encN m))
      rw [hqe] at hq
      clear h1 h2 hqe
      generalize bs (encN n) = S at *
      generalize bs (encN m) = T at *
      generalize eqN n m = q at *
      go_enter Tryd.func6, Tryd.ntmps6
      go_wp2_with (first
        | (go_at_call 8; refine (HLV.out _).mono ?_; rintro e w2 ⟨rfl, hb2⟩; have HV2 := Lib.hid (HV1.out.below hb2); have HA2 := Lib.hid (HA1.out.below hb2); have HB2 := Lib.hid (HB1.out.trans (hb2.mono HB1.out.size)); clear hb2)
        | (refine wpList_load_row rfl 27 (.tmp 2) rfl (w.heap.size) rfl 27 cs (0, 0) _ HV2.out.1 Tryd.underlying27 rfl HV2.out.info ?_)
        | (go_at_call 9; refine (HC0.out _ HV2.out.2).mono ?_; rintro e w3 ⟨rfl, hb3⟩; have HV3 := Lib.hid (HV2.out.below hb3); have HA3 := Lib.hid (HA2.out.below hb3); have HB3 := Lib.hid (HB2.out.trans (hb3.mono HB2.out.size)); clear hb3 HV2)
        | (refine wpList_load_row rfl 27 (.tmp 3) rfl (w.heap.size + 1) rfl 27 ds (0, 0) _ HA3.out.1 Tryd.underlying27 rfl HA3.out.info ?_)
        | (go_at_call 9; refine (HC1.out _ HA3.out.2).mono ?_; rintro e w4 ⟨rfl, hb4⟩; have HV4 := Lib.hid (HV3.out.below hb4); have HA4 := Lib.hid (HA3.out.below hb4); have HB4 := Lib.hid (HB3.out.trans (hb4.mono HB3.out.size)); clear hb4 HV3 HA3)
        | (refine wpList_load_row_g 27 (.tmp 2) rfl (by kernel_rfl) (w.heap.size) rfl 27 cs (0, 0) _ HV4.out.1 Tryd.underlying27 rfl HV4.out.info ?_)
        | (refine wpList_load_row_g 27 (.tmp 3) rfl (by kernel_rfl) (w.heap.size + 1) rfl 27 ds (0, 0) _ HA4.out.1 Tryd.underlying27 rfl HA4.out.info ?_)
        | (go_at_call 11; refine (HC2.out _ HV4.out.2 HA4.out.2).mono ?_; rintro e w5 ⟨rfl, hb5⟩; have HB5 := Lib.hid (HB4.out.trans (hb5.mono HB4.out.size)); clear hb5))
      go_ret
      exact ⟨by cases q <;> rfl, HB5.out⟩
    · rw [encB_no h2] at HC1
      have q2 : ((ckN m : Int) != 0) = true := by rw [bne_iff_ne]; exact h2
      generalize ckN m = C at *
      clear h1 h2
      generalize bs (encN n) = S at *
      go_enter Tryd.func6, Tryd.ntmps6
      go_wp2_with (first
        | (go_at_call 8; refine (HLV.out _).mono ?_; rintro e w2 ⟨rfl, hb2⟩; have HV2 := Lib.hid (HV1.out.below hb2); have HA2 := Lib.hid (HA1.out.below hb2); have HB2 := Lib.hid (HB1.out.trans (hb2.mono HB1.out.size)); clear hb2)
        | (refine wpList_load_row rfl 27 (.tmp 2) rfl (w.heap.size) rfl 27 cs (0, 0) _ HV2.out.1 Tryd.underlying27 rfl HV2.out.info ?_)
        | (go_at_call 9; refine (HC0.out _ HV2.out.2).mono ?_; rintro e w3 ⟨rfl, hb3⟩; have HV3 := Lib.hid (HV2.out.below hb3); have HA3 := Lib.hid (HA2.out.below hb3); have HB3 := Lib.hid (HB2.out.trans (hb3.mono HB2.out.size)); clear hb3 HV2)
        | (refine wpList_load_row rfl 27 (.tmp 3) rfl (w.heap.size + 1) rfl 27 ds (0, 0) _ HA3.out.1 Tryd.underlying27 rfl HA3.out.info ?_)
        | (go_at_call 9; refine (HC1.out _ HA3.out.2).mono ?_; rintro e w4 ⟨rfl, hb4⟩; have HV4 := Lib.hid (HV3.out.below hb4); have HA4 := Lib.hid (HA3.out.below hb4); have HB4 := Lib.hid (HB3.out.trans (hb4.mono HB3.out.size)); clear hb4 HV3 HA3))
      go_ret
      exact ⟨rfl, HB4.out⟩
  · rw [encB_no h1] at HC0
    have q2 : ((ckN n : Int) != 0) = true := by rw [bne_iff_ne]; exact h1
    generalize ckN n = C at *
    generalize ckN m = C2 at *
    generalize encB m = T at *
    clear h1
    go_enter Tryd.func6, Tryd.ntmps6
    go_wp2_with (first
      | (go_at_call 8; refine (HLV.out _).mono ?_; rintro e w2 ⟨rfl, hb2⟩; have HV2 := Lib.hid (HV1.out.below hb2); have HA2 := Lib.hid (HA1.out.below hb2); have HB2 := Lib.hid (HB1.out.trans (hb2.mono HB1.out.size)); clear hb2)
      | (refine wpList_load_row rfl 27 (.tmp 2) rfl (w.heap.size) rfl 27 cs (0, 0) _ HV2.out.1 Tryd.underlying27 rfl HV2.out.info ?_)
      | (go_at_call 9; refine (HC0.out _ HV2.out.2).mono ?_; rintro e w3 ⟨rfl, hb3⟩; have HV3 := Lib.hid (HV2.out.below hb3); have HA3 := Lib.hid (HA2.out.below hb3); have HB3 := Lib.hid (HB2.out.trans (hb3.mono HB2.out.size)); clear hb3 HV2)
      | (refine wpList_load_row rfl 27 (.tmp 3) rfl (w.heap.size + 1) rfl 27 ds (0, 0) _ HA3.out.1 Tryd.underlying27 rfl HA3.out.info ?_)
      | (go_at_call 9; refine (HC1.out _ HA3.out.2).mono ?_; rintro e w4 ⟨rfl, hb4⟩; have HV4 := Lib.hid (HV3.out.below hb4); have HA4 := Lib.hid (HA3.out.below hb4); have HB4 := Lib.hid (HB3.out.trans (hb4.mono HB3.out.size)); clear hb4 HV3 HA3))
    go_ret
    exact ⟨rfl, HB4.out⟩
end Go.Proofs.YtmibgdlmhjkpfaaDoor.Nd
