/- Package stream: the walk of StreamChains. -/
import Derived.Test.YtjkmfonngbendaaGreatDoorGb4
namespace Go.Proofs.YtjkmfonngbendaaGreatDoor.Se
set_option linter.unusedVariables false
set_option linter.unusedSimpArgs false
set_option maxRecDepth 100000
open Go.ChangeShapes Go.WideShapes Go.ChangeAt Go.RowKit
open BigFrame
open Ar Rg
open Pk (be num be_length num_lt u8s u8s_length crc)
open Nd (S bs)
open Di (ItA ckE rgt rgt_iff Check_any L0 rgt_0 rootI New_any)
open It (Itm Ch rt rc itm er MkI MkC app dif apply_any rt_iff okI UpK key same_any sm sm_iff)
open Hk (hashOf)
variable {tK tS : TypeId}
theorem snd_yes {F T : List Itm} (h1 : okb F = true) (h2 : rgt T = true) : sndE F T = 0 := if_pos ⟨h1, h2⟩
set_option maxHeartbeats 4000000 in
theorem streamChains_walk {w : World} {A A' A'' : Option Addr} {n m k : Nat} (c c' c'' : Nat) {X Y Z : List Itm} (hX : ItA w A n X) (hY : ItA w A' m Y) (hZ : ItA w A'' k Z) (hc : n ≤ c) (hcm : c ≤ maxLen) (hK : Kt tK tS w) :
    Calls Tryz.prog 9 #[.slice A n c, .slice A' m c', .slice A'' k c''] w fun e w' => e = .returned (.bool true) ∧ Below w.heap.size w w' := by
  have HXX := Lib.hid hX
  have HYY := Lib.hid hY
  have HZZ := Lib.hid hZ
  have HKK := Lib.hid hK
  have HC1 := Lib.hid hc
  have HC2 := Lib.hid hcm
  have HLV := Lib.hid (lives_true w hK)
  have HL1 := Lib.hid (show X.length + Y.length ≤ 4194304 by have := hX.1; have := hX.2.1; have := hY.1; have := hY.2.1; omega)
  have HL2 := Lib.hid (show Y.length + Z.length ≤ 4194304 by have := hZ.1; have := hZ.2.1; have := hY.1; have := hY.2.1; omega)
  have HL3 := Lib.hid (show X.length + Z.length ≤ 4194304 by have := hX.1; have := hX.2.1; have := hZ.1; have := hZ.2.1; omega)
  have HLY := Lib.hid (show Y.length ≤ 1048576 by have := hY.1; have := hY.2.1; omega)
  have HLZ := Lib.hid (show Z.length ≤ 1048576 by have := hZ.1; have := hZ.2.1; omega)
  clear hX hY hZ hK hc hcm
  go_enter Tryz.func9, Tryz.ntmps9
  go_wp2_with fail
  (with_reducible refine HLV.out.mono ?_)
  rintro e w1 ⟨rfl, hb1⟩
  have B1 := Lib.hid hb1
  have HSN := Lib.hid (Send_any (tK := tK) (tS := tS) c c' (HXX.out.go B1.out) (HYY.out.go B1.out) (HKK.out.go B1.out))
  clear hb1 HLV
  by_cases hr : okb X = true ∧ rgt Y = true
  · have hoY := okb_of hr.2
    have HX1 := Lib.hid hr.1
    rw [snd_yes hr.1 hr.2] at HSN
    have HS1 := Lib.hid (snd_len HL1.out)
    have HR1 := Lib.hid (rcv_snd hr.1 hr.2 HL1.out)
    have HF1 := Lib.hid (fit_snd hr.1 hr.2 HL1.out HLY.out)
    have HOY := Lib.hid hoY
    obtain ⟨s, hs⟩ : ∃ s, sndS X Y = s := ⟨_, rfl⟩
    rw [hs] at HSN HS1 HR1 HF1
    clear hs hr hoY
    go_wp2_with fail
    (with_reducible refine HSN.out.mono ?_)
    rintro e w2 ⟨rfl, hb2⟩
    have B2 := Lib.hid (B1.out.trans (hb2.mono B1.out.size))
    have HSM := Lib.hid (Send_any (tK := tK) (tS := tS) c' c'' (HYY.out.go B2.out) (HZZ.out.go B2.out) (HKK.out.go B2.out))
    clear hb2 HSN
    by_cases hz : rgt Z = true
    · rw [snd_yes HOY.out hz] at HSM
      have HS2 := Lib.hid (snd_len HL2.out)
      have HR2 := Lib.hid (rcv_snd HOY.out hz HL2.out)
      have HF2 := Lib.hid (fit_snd HOY.out hz HL2.out HLZ.out)
      have HE3 := Lib.hid (snd_yes HX1.out hz)
      have HS3 := Lib.hid (snd_len HL3.out)
      have HR3 := Lib.hid (rcv_snd HX1.out hz HL3.out)
      have HF3 := Lib.hid (fit_snd HX1.out hz HL3.out HLZ.out)
      obtain ⟨t, ht⟩ : ∃ s, sndS Y Z = s := ⟨_, rfl⟩
      rw [ht] at HSM HS2 HR2 HF2
      clear ht hz
      go_wp2_with fail
      (with_reducible refine HSM.out.mono ?_)
      rintro e w3 ⟨rfl, hb3⟩
      have B3 := Lib.hid (B2.out.trans (hb3.mono B2.out.size))
      have hRC := rcv_call (tK := tK) (tS := tS) (l := s) HS1.out c HC1.out HC2.out (HXX.out.go B3.out) (HKK.out.go B3.out) HF1.out
      rw [HR1.out.1, HR1.out.2] at hRC
      have HRC := Lib.hid hRC
      clear hRC hb3 HSM
      go_wp2_with fail
      (with_reducible refine HRC.out.mono ?_)
      rintro e w4 ⟨A4, c4, rfl, hc4, hcm4, h4, hb4⟩
      have B4 := Lib.hid (B3.out.trans (hb4.mono B3.out.size))
      have HI4 := Lib.hid (h4 HLY.out)
      have hRC := rcv_call (tK := tK) (tS := tS) (l := t) HS2.out c4 hc4 hcm4 HI4.out (HKK.out.go B4.out) HF2.out
      rw [HR2.out.1, HR2.out.2] at hRC
      have HRC := Lib.hid hRC
      clear hRC hb4 h4 hc4 hcm4
      go_wp2_with fail
      (with_reducible refine HRC.out.mono ?_)
      rintro e w5 ⟨A5, c5, rfl, hc5, hcm5, h5, hb5⟩
      have B5 := Lib.hid (B4.out.trans (hb5.mono B4.out.size))
      have HI5 := Lib.hid (h5 HLZ.out)
      have HSN := Lib.hid (Send_any (tK := tK) (tS := tS) c c'' (HXX.out.go B5.out) (HZZ.out.go B5.out) (HKK.out.go B5.out))
      rw [HE3.out] at HSN
      obtain ⟨u, hu⟩ : ∃ s, sndS X Z = s := ⟨_, rfl⟩
      rw [hu] at HSN HS3 HR3 HF3
      clear hu hb5 h5 hc5 hcm5 HRC HI4
      go_wp2_with fail
      (with_reducible refine HSN.out.mono ?_)
      rintro e w6 ⟨rfl, hb6⟩
      have B6 := Lib.hid (B5.out.trans (hb6.mono B5.out.size))
      have HI6 := Lib.hid (HI5.out.go hb6)
      have hRC := rcv_call (tK := tK) (tS := tS) (l := u) HS3.out c HC1.out HC2.out (HXX.out.go B6.out) (HKK.out.go B6.out) HF3.out
      rw [HR3.out.1, HR3.out.2] at hRC
      have HRC := Lib.hid hRC
      clear hRC hb6 HSN HI5
      go_wp2_with fail
      (with_reducible refine HRC.out.mono ?_)
      rintro e w7 ⟨A7, c7, rfl, hc7, hcm7, h7, hb7⟩
      have B7 := Lib.hid (B6.out.trans (hb7.mono B6.out.size))
      have HI7 := Lib.hid (HI6.out.go hb7)
      have HJ7 := Lib.hid (h7 HLZ.out)
      have HSM := Lib.hid (same_it (c := c5) (c' := c'') HI7.out (HZZ.out.go B7.out))
      rw [sm_iff.2 rfl] at HSM
      clear hb7 h7 hc7 hcm7 HRC HI6 HI7
      go_wp2_with fail
      (with_reducible refine HSM.out.mono ?_)
      rintro e w8 ⟨rfl, hb8⟩
      have B8 := Lib.hid (B7.out.trans (hb8.mono B7.out.size))
      have HSM := Lib.hid (same_it (c := c7) (c' := c'') (HJ7.out.go hb8) (HZZ.out.go B8.out))
      rw [sm_iff.2 rfl] at HSM
      clear hb8 HJ7
      go_wp2_with fail
      (with_reducible refine HSM.out.mono ?_)
      rintro e w9 ⟨rfl, hb9⟩
      have B9 := Lib.hid (B8.out.trans (hb9.mono B8.out.size))
      clear hb9 HSM
      go_wp2
      go_ret
      exact ⟨rfl, B9.out⟩
    · have HE := Lib.hid (snd_no (F := Y) (T := Z) (fun h => hz h.2))
      rw [HE.out.1, HE.out.2] at HSM
      clear hz
      go_wp2_with fail
      (with_reducible refine HSM.out.mono ?_)
      rintro e w3 ⟨rfl, hb3⟩
      have B3 := Lib.hid (B2.out.trans (hb3.mono B2.out.size))
      clear hb3
      go_wp2
      go_ret
      exact ⟨rfl, B3.out⟩
  · have HE := Lib.hid (snd_no hr)
    rw [HE.out.1, HE.out.2] at HSN
    clear hr
    go_wp2_with fail
    (with_reducible refine HSN.out.mono ?_)
    rintro e w2 ⟨rfl, hb2⟩
    have B2 := Lib.hid (B1.out.trans (hb2.mono B1.out.size))
    obtain ⟨t, x, HSM⟩ : ∃ t x, Hid (Calls Tryz.prog 21 #[.slice A' m c', .slice A'' k c''] w2 fun e w' => e = .returned (.tuple #[.string (bs t), .int .i64 x]) ∧ Below w2.heap.size w2 w') := ⟨_, _, Lib.hid (Send_any (tK := tK) (tS := tS) c' c'' (HYY.out.go B2.out) (HZZ.out.go B2.out) (HKK.out.go B2.out))⟩
    clear hb2
    go_wp2_with fail
    (with_reducible refine HSM.out.mono ?_)
    rintro e w3 ⟨rfl, hb3⟩
    have B3 := Lib.hid (B2.out.trans (hb3.mono B2.out.size))
    clear hb3
    go_wp2
    go_ret
    exact ⟨rfl, B3.out⟩
end Go.Proofs.YtjkmfonngbendaaGreatDoor.Se
