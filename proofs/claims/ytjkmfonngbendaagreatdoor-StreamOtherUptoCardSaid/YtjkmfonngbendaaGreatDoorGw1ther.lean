/- Package stream: the walks of StreamOther and StreamRight. Written by mk_sfi.py. -/
import Derived.Test.YtjkmfonngbendaaGreatDoorGb4
namespace Go.Proofs.YtjkmfonngbendaaGreatDoor.Se
set_option linter.unusedVariables false
set_option linter.unusedSimpArgs false
set_option maxRecDepth 100000
open Go.ChangeShapes Go.WideShapes Go.ChangeAt Go.RowKit
open BigFrame
open Ar Rg
open Pk (be num be_length num_lt u8s u8s_length crc)
open Nd (S bs)
open Di (ItA ckE rgt rgt_iff Check_any L0 rgt_0 rootI New_any)
open It (Itm Ch rt rc itm er MkI MkC app dif apply_any rt_iff okI UpK key ckey lt same_any sm sm_iff don donL)
open Hk (hashOf)
variable {tK tS : TypeId}
theorem donL_len (c : Ch) : ∀ (D : List Itm) (put : Bool), (donL c put D).length ≤ D.length + (if put then 0 else 1)
  | [], put => by cases put <;> simp [donL]
  | x :: r, put => by
    rw [donL, List.length_append, List.length_append, List.length_cons]
    have h2 : (if key x = ckey c then [] else [x] : List Itm).length ≤ 1 := by split <;> simp
    cases put with
    | true =>
      have h3 := donL_len c r true
      simp only [Bool.not_true, Bool.false_and, Bool.true_or, if_true] at h3 ⊢
      simp only [Bool.false_eq_true, if_false, List.length_nil] at h3 ⊢
      omega
    | false =>
      cases h : lt (key x) (ckey c) with
      | true =>
        have h3 := donL_len c r false
        simp only [Bool.not_true, Bool.not_false, Bool.and_false, Bool.true_and, Bool.or_false, Bool.false_or, Bool.false_eq_true, if_false, List.length_nil] at h3 ⊢
        omega
      | false =>
        have h3 := donL_len c r true
        simp only [Bool.not_false, Bool.and_true, Bool.true_and, Bool.or_true, Bool.false_or, Bool.false_eq_true, if_false, if_true, List.length_nil, List.length_cons] at h3 ⊢
        omega
theorem app_len : ∀ (D : List Ch) (L : List Itm), (app L D).length ≤ L.length + D.length
  | [], L => Nat.le_refl _
  | c :: D, L => by
    rw [It.app_cons, List.length_cons]
    have h1 := app_len D (don c L)
    have h2 : (don c L).length ≤ L.length + 1 := Nat.le_trans (donL_len c L _) (by split <;> omega)
    omega
theorem tkn_len {l H : List UInt8} {D : List Ch} (h : tkn l = some (H, D)) : D.length ≤ l.length := by
  unfold tkn at h
  split at h
  · cases h
  · split at h
    · split at h
      · cases h
        have := s4_len (l.take (l.length - 4))
        rw [List.length_take] at this
        omega
      · cases h
    · cases h
theorem rcv_cases (L : List Itm) (l : List UInt8) : (okb L = false ∧ rcvE L l = 9) ∨ rcvE L l = 16 ∨ (rcvE L l = 0 ∧ rgt (rcvL L l) = true ∧ ∃ D, tkn l = some (hashOf (mkL L), D) ∧ rcvL L l = app L D) := by
  cases ho : okb L with
  | false => exact .inl ⟨rfl, by unfold rcvE; rw [ho]; rfl⟩
  | true =>
    cases ht : tkn l with
    | none => exact .inr (.inl (by unfold rcvE; rw [ho, ht]; rfl))
    | some p =>
      obtain ⟨H, D⟩ := p
      by_cases h : H = hashOf (mkL L) ∧ rc D = true ∧ rgt (app L D) = true
      · have e : rcvE L l = 0 := by unfold rcvE; rw [ho, ht]; exact if_pos h
        have e2 : rcvL L l = app L D := by unfold rcvL; rw [if_pos e, ht]
        exact .inr (.inr ⟨e, by rw [e2]; exact h.2.2, D, by rw [h.1], e2⟩)
      · exact .inr (.inl (by unfold rcvE; rw [ho, ht]; exact if_neg h))
set_option maxHeartbeats 4000000 in
theorem streamRight_walk {w : World} {A : Option Addr} {n : Nat} (c : Nat) {L : List Itm} (s : ByteArray) (hL : ItA w A n L) (hc : n ≤ c) (hcm : c ≤ maxLen) (hz : n + s.size ≤ 1048576) (hK : Kt tK tS w) :
    Calls Tryz.prog 7 #[.slice A n c, .string s] w fun e w' => e = .returned (.bool true) ∧ Below w.heap.size w w' := by
  obtain ⟨l, hl, hlz⟩ : ∃ l : List UInt8, s = bs l ∧ l.length = s.size := ⟨s.data.toList, rfl, by rw [Array.length_toList]; rfl⟩
  subst hl
  have HLL := Lib.hid hL
  have HKK := Lib.hid hK
  have HLV := Lib.hid (lives_true w hK)
  have HFT := Lib.hid (show ∀ H D, tkn l = some (H, D) → (app L D).length ≤ 1048576 from fun H D h => by
    have h1 := tkn_len h
    have h2 := app_len D L
    have h3 := hL.1
    omega)
  have HRC := Lib.hid (fun w1 (B1 : Below w.heap.size w w1) => rcv_call (tK := tK) (tS := tS) (l := l) (by omega) c hc hcm (hL.go B1) (hK.go B1) HFT.out)
  have HN0 := Lib.hid (show okb L = false → 0 < n from fun h => by
    rw [hL.1]
    cases L with
    | nil => rw [okb_nil] at h; cases h
    | cons x L => exact Nat.succ_pos _)
  clear hL hK hc hcm hz hlz
  rcases rcv_cases L l with ⟨h, h9⟩ | h16 | ⟨h0, hr, D, hD, hA⟩
  · have hno : rcvL L l = [] := rcvL_no (by rw [h9]; decide)
    rw [h9, hno] at HRC
    have hpos := HN0.out h
    clear h h9 hno HFT
    go_enter Tryz.func7, Tryz.ntmps7
    go_wp2_with fail
    (with_reducible refine HLV.out.mono ?_)
    rintro e w1 ⟨rfl, hb1⟩
    have B1 := Lib.hid hb1
    clear hb1
    go_wp2_with fail
    (with_reducible refine (HRC.out _ B1.out).mono ?_)
    rintro e w2 ⟨A2, c2, rfl, _, _, _, hb2⟩
    have B2 := Lib.hid (B1.out.trans (hb2.mono B1.out.size))
    clear hb2 HRC
    have hposI : (0 : Int) < (n : Int) := by omega
    have hne : ¬ n = 0 := by omega
    go_wp2
    go_ret
    exact ⟨rfl, B2.out⟩
  · have hno : rcvL L l = [] := rcvL_no (by rw [h16]; decide)
    rw [h16, hno] at HRC
    clear h16 hno HFT
    go_enter Tryz.func7, Tryz.ntmps7
    go_wp2_with fail
    (with_reducible refine HLV.out.mono ?_)
    rintro e w1 ⟨rfl, hb1⟩
    have B1 := Lib.hid hb1
    clear hb1
    go_wp2_with fail
    (with_reducible refine (HRC.out _ B1.out).mono ?_)
    rintro e w2 ⟨A2, c2, rfl, _, _, _, hb2⟩
    have B2 := Lib.hid (B1.out.trans (hb2.mono B1.out.size))
    clear hb2 HRC
    go_wp2
    go_ret
    exact ⟨rfl, B2.out⟩
  · rw [h0] at HRC
    have HLE := Lib.hid (show (rcvL L l).length ≤ 1048576 by rw [hA]; exact HFT.out _ _ hD)
    obtain ⟨M, hM⟩ : ∃ M, rcvL L l = M := ⟨_, rfl⟩
    rw [hM] at HRC HLE hr
    have HCE := Lib.hid (show ckE M = 0 by unfold ckE; rw [hr]; rfl)
    clear h0 hr hD hA hM HFT
    go_enter Tryz.func7, Tryz.ntmps7
    go_wp2_with fail
    (with_reducible refine HLV.out.mono ?_)
    rintro e w1 ⟨rfl, hb1⟩
    have B1 := Lib.hid hb1
    clear hb1
    go_wp2_with fail
    (with_reducible refine (HRC.out _ B1.out).mono ?_)
    rintro e w2 ⟨A2, c2, rfl, _, _, h2, hb2⟩
    have B2 := Lib.hid (B1.out.trans (hb2.mono B1.out.size))
    have HCK := Lib.hid (Check_any c2 (h2 HLE.out))
    rw [HCE.out] at HCK
    clear hb2 HRC h2
    go_wp2_with fail
    (with_reducible refine HCK.out.mono ?_)
    rintro e w3 ⟨rfl, hb3⟩
    have B3 := Lib.hid (B2.out.trans (hb3.mono B2.out.size))
    clear hb3 HCK
    go_wp2
    go_ret
    exact ⟨rfl, B3.out⟩
end Go.Proofs.YtjkmfonngbendaaGreatDoor.Se
/- Package stream: the walk of StreamOther. Written by mk_sfj.py. -/
namespace Go.Proofs.YtjkmfonngbendaaGreatDoor.Se
set_option linter.unusedVariables false
set_option linter.unusedSimpArgs false
set_option maxRecDepth 100000
open Go.ChangeShapes Go.WideShapes Go.ChangeAt Go.RowKit
open BigFrame
open Ar Rg
open Pk (be num be_length num_lt u8s u8s_length crc)
open Nd (S bs)
open Di (ItA ckE rgt rgt_iff Check_any L0 rgt_0 rootI New_any)
open It (Itm Ch rt rc itm er MkI MkC app dif apply_any rt_iff okI UpK key ckey lt same_any sm sm_iff don donL)
open Hk (hashOf)
variable {tK tS : TypeId}
theorem snd_same {T : List Itm} (h : rgt T = true) : (sndS T T).length = 42 := by
  have e : sndS T T = wrS (hashOf (mkL T)) (dif T T) := if_pos ⟨okb_of h, h⟩
  rw [e, It.dif_self (upk (rgt_rt h)), wrS_len]
  unfold wrB
  rw [List.length_append, List.length_append, List.length_append, hash32, be_length]
  rfl
/-- on another it is not received -/
theorem rcv_ne {F T O : List Itm} (h1 : okb F = true) (h2 : rgt T = true) (hl : F.length + T.length ≤ 4194304) (hne : ¬ mrkH F = mrkH O) (hO : rt O = true) : rcvE O (sndS F T) = 9 ∨ rcvE O (sndS F T) = 16 := by
  have e1 : mrkH F = hashOf (mkL F) := if_pos (okb_rt h1)
  have e2 : mrkH O = hashOf (mkL O) := if_pos hO
  rw [e1, e2] at hne
  rcases rcv_cases O (sndS F T) with h | h | ⟨_, _, D, hD, _⟩
  · exact .inl h.2
  · exact .inr h
  · rw [(tkn_snd h1 h2 hl).2.2] at hD
    exact absurd (Prod.mk.inj (Option.some.inj hD)).1 hne
set_option maxHeartbeats 8000000 in
theorem streamOther_walk {w : World} {A A' A'' : Option Addr} {n m k : Nat} (c c' c'' : Nat) {F T O : List Itm} (hF : ItA w A n F) (hT : ItA w A' m T) (hO : ItA w A'' k O) (hc' : m ≤ c') (hcm' : c' ≤ maxLen) (hc : k ≤ c'') (hcm : c'' ≤ maxLen) (hz : n + m + k ≤ 1048576) (hK : Kt tK tS w) :
    Calls Tryz.prog 8 #[.slice A n c, .slice A' m c', .slice A'' k c''] w fun e w' => e = .returned (.bool true) ∧ Below w.heap.size w w' := by
  have HFF := Lib.hid hF
  have HTT := Lib.hid hT
  have HOO := Lib.hid hO
  have HKK := Lib.hid hK
  have HC1 := Lib.hid hc'
  have HC2 := Lib.hid hcm'
  have HC3 := Lib.hid hc
  have HC4 := Lib.hid hcm
  have HLV := Lib.hid (lives_true w hK)
  have HLN := Lib.hid (show F.length + T.length ≤ 4194304 by have := hF.1; have := hT.1; omega)
  have HLM := Lib.hid (show T.length + T.length ≤ 4194304 by have := hT.1; omega)
  have HLT := Lib.hid (show T.length ≤ 1048576 by have := hT.1; omega)
  have HLO := Lib.hid (show O.length + (F.length + T.length) ≤ 1048576 by have := hF.1; have := hT.1; have := hO.1; omega)
  clear hF hT hO hK hc hcm hc' hcm' hz
  go_enter Tryz.func8, Tryz.ntmps8
  go_wp2_with fail
  (with_reducible refine HLV.out.mono ?_)
  rintro e w1 ⟨rfl, hb1⟩
  have B1 := Lib.hid hb1
  have HSN := Lib.hid (Send_any (tK := tK) (tS := tS) c c' (HFF.out.go B1.out) (HTT.out.go B1.out) (HKK.out.go B1.out))
  clear hb1 HLV
  by_cases hr : okb F = true ∧ rgt T = true
  · have HR := Lib.hid hr
    rw [(tkn_snd hr.1 hr.2 HLN.out).1] at HSN
    have HSL := Lib.hid (snd_len HLN.out)
    have HNE := Lib.hid (fun hne hO => rcv_ne (O := O) hr.1 hr.2 HLN.out hne hO)
    have HFT := Lib.hid (show ∀ H D, tkn (sndS F T) = some (H, D) → (app O D).length ≤ 1048576 from fun H D h => by
      rw [(tkn_snd hr.1 hr.2 HLN.out).2.2] at h
      cases h
      have h1 := app_len (dif F T) O
      have h2 := It.dif_len F T
      have h3 := HLO.out
      omega)
    have HMF := Lib.hid (show mrkE F = 0 from if_pos (okb_rt hr.1))
    have HE4 := Lib.hid (show sndE T T = 0 from if_pos ⟨okb_of hr.2, hr.2⟩)
    have HR4 := Lib.hid (rcv_snd (okb_of hr.2) hr.2 HLM.out)
    have HF4 := Lib.hid (fit_snd (okb_of hr.2) hr.2 HLM.out HLT.out)
    have HL4 := Lib.hid (snd_same hr.2)
    obtain ⟨t, ht⟩ : ∃ s, sndS T T = s := ⟨_, rfl⟩
    rw [ht] at HR4 HF4 HL4
    have HTS := Lib.hid ht
    obtain ⟨s, hs⟩ : ∃ s, sndS F T = s := ⟨_, rfl⟩
    rw [hs] at HSN HSL HNE HFT
    clear hs hr ht
    go_wp2_with fail
    (with_reducible refine HSN.out.mono ?_)
    rintro e w2 ⟨rfl, hb2⟩
    have B2 := Lib.hid (B1.out.trans (hb2.mono B1.out.size))
    have HMK := Lib.hid (Mark_any (tK := tK) (tS := tS) c (HFF.out.go B2.out) (HKK.out.go B2.out))
    rw [HMF.out] at HMK
    obtain ⟨C, hC⟩ : ∃ C, (u8s (mrkH F)).toArray = C := ⟨_, rfl⟩
    have HC := Lib.hid hC
    have HIC := Lib.hid (show (Tryz.prog.info? 54).map (·.size) = some C.size by rw [← hC, List.size_toArray, u8s_length, mrk_len]; kernel_rfl)
    have HOC := Lib.hid (show C.all (·.oneCell') = true by rw [← hC]; exact Hk.u8s_one _)
    have HSC := Lib.hid (show C.size = 32 by rw [← hC, List.size_toArray, u8s_length, mrk_len])
    rw [hC] at HMK
    clear hC hb2 HSN
    go_wp2_with fail
    (with_reducible refine HMK.out.mono ?_)
    rintro e w3 ⟨rfl, hb3⟩
    have B3 := Lib.hid (B2.out.trans (hb3.mono B2.out.size))
    obtain ⟨Z, hZ⟩ : ∃ Z : Array Value, zH = Z := ⟨_, rfl⟩
    have HZ32 := Lib.hid (show Z.size = 32 by rw [← hZ]; rfl)
    have HZC := Lib.hid (show Z.size = C.size by rw [HSC.out, HZ32.out])
    delta zH at hZ
    have hn3 := var_new w3 C Z 54
    obtain ⟨V3, hV3⟩ : ∃ V, (w3.alloc (.cells Z 54)).setRow w3.heap.size C = V := ⟨_, rfl⟩
    have HN3 := Lib.hid (heap_alloc_new w3 (.cells Z 54))
    rw [hV3] at hn3
    have BV3 := Lib.hid (B3.out.trans (hn3.1.mono B3.out.size))
    have R3 := Lib.hid hn3.2
    have HMK := Lib.hid (Mark_any (tK := tK) (tS := tS) c'' (HOO.out.go BV3.out) (HKK.out.go BV3.out))
    obtain ⟨E, hE⟩ : ∃ C, (u8s (mrkH O)).toArray = C := ⟨_, rfl⟩
    have HE := Lib.hid hE
    have HIE := Lib.hid (show (Tryz.prog.info? 54).map (·.size) = some E.size by rw [← hE, List.size_toArray, u8s_length, mrk_len]; kernel_rfl)
    have HOE := Lib.hid (show E.all (·.oneCell') = true by rw [← hE]; exact Hk.u8s_one _)
    have HSE := Lib.hid (show E.size = 32 by rw [← hE, List.size_toArray, u8s_length, mrk_len])
    have HZE := Lib.hid (show Z.size = E.size by rw [HSE.out, HZ32.out])
    rw [hE] at HMK
    clear hb3 hn3 hE
    go_wp2_with (refine wpList_store_row rfl 54 (.tmp 9) (.tmp 32) rfl w3.heap.size C rfl rfl 54 Z HN3.out HIC.out HZC.out HOC.out ?_)
    (with_reducible refine HMK.out.mono ?_)
    rintro e w4 ⟨rfl, hb4⟩
    have B4 := Lib.hid (BV3.out.trans (hb4.mono BV3.out.size))
    have R4 := Lib.hid ((hb4.block w3.heap.size (Array.getElem?_eq_some_iff.1 R3.out).1).trans R3.out)
    have hn4 := var_new w4 E Z 54
    obtain ⟨V4, hV4⟩ : ∃ V, (w4.alloc (.cells Z 54)).setRow w4.heap.size E = V := ⟨_, rfl⟩
    have HN4 := Lib.hid (heap_alloc_new w4 (.cells Z 54))
    rw [hV4] at hn4
    have BV4 := Lib.hid (B4.out.trans (hn4.1.mono B4.out.size))
    have S3 := Lib.hid ((hn4.1.block w3.heap.size (Array.getElem?_eq_some_iff.1 R4.out).1).trans R4.out)
    have S4 := Lib.hid hn4.2
    have HRC := Lib.hid (rcv_call (tK := tK) (tS := tS) (l := s) HSL.out c'' HC3.out HC4.out (HOO.out.go BV4.out) (HKK.out.go BV4.out) HFT.out)
    obtain ⟨xr, hxr⟩ : ∃ x, rcvE O s = x := ⟨_, rfl⟩
    obtain ⟨xm, hxm⟩ : ∃ x, mrkE O = x := ⟨_, rfl⟩
    have hxm4 : xm = 0 ∨ xm = 4 := by rw [← hxm]; unfold mrkE; split <;> simp
    have HXM := Lib.hid (show xm = 0 → rt O = true from fun h => by
      rw [← hxm] at h; unfold mrkE at h
      split at h
      · assumption
      · cases h)
    rw [hxr] at HRC HNE
    rw [hxm]
    clear hb4 HMK hn4 R3 R4 hxr hxm HFT
    go_wp2_with (refine wpList_store_row rfl 54 (.tmp 11) (.tmp 37) rfl w4.heap.size E rfl rfl 54 Z HN4.out HIE.out HZE.out HOE.out ?_)
    (with_reducible refine HRC.out.mono ?_)
    rintro e w5 ⟨A5, c5, rfl, _, _, _, hb5⟩
    have B5 := Lib.hid (BV4.out.trans (hb5.mono BV4.out.size))
    have R3 := Lib.hid ((hb5.block w3.heap.size (Array.getElem?_eq_some_iff.1 S3.out).1).trans S3.out)
    have R4 := Lib.hid ((hb5.block w4.heap.size (Array.getElem?_eq_some_iff.1 S4.out).1).trans S4.out)
    have HRA := Lib.hid (row_range R3.out)
    have HRB := Lib.hid (row_range R4.out)
    have HEQ := Lib.hid (fun (b : Bool) (hb : decide (mrkH F = mrkH O) = b) => show ∀ w, (Op.equalIn 10000 54 (.agg C) (.agg E)).run Tryz.prog w = .ok b w from fun w => by
      rw [← HC.out, ← HE.out, ← hb]
      exact arr_ne (mrk_len F) (mrk_len O) w)
    have HSND := Lib.hid (fun w' (hb : Below w.heap.size w w') => Send_any (tK := tK) (tS := tS) c' c' (HTT.out.go hb) (HTT.out.go hb) (HKK.out.go hb))
    rw [HE4.out, HTS.out] at HSND
    have HSI := Lib.hid (show ((bs t).size : Int) = 42 by rw [show (bs t).size = t.length from rfl, HL4.out]; rfl)
    clear hb5 HRC S3 S4
    have hgd := guard32
    rcases hxm4 with h | h
    · have hrt := HXM.out h
      subst h
      cases hq : decide (mrkH F = mrkH O) with
      | true =>
        have heq := HEQ.out true hq
        go_wp2_with (first
          | (refine wpList_load_w (by rfl) 54 (.tmp 9) rfl w3.heap.size 0 rfl C _ HRA.out Tryz.underlying54 rfl HIC.out ?_)
          | (refine wpList_load_w (by rfl) 54 (.tmp 11) rfl w4.heap.size 0 rfl E _ HRB.out Tryz.underlying54 rfl HIE.out ?_))
        (with_reducible refine (HSND.out _ B5.out).mono ?_)
        rintro e w6 ⟨rfl, hb6⟩
        have B6 := Lib.hid (B5.out.trans (hb6.mono B5.out.size))
        have hRC := rcv_call (tK := tK) (tS := tS) (l := t) (by rw [HL4.out]; decide) c' HC1.out HC2.out (HTT.out.go B6.out) (HKK.out.go B6.out) HF4.out
        rw [HR4.out.1, HR4.out.2] at hRC
        have HRC := Lib.hid hRC
        clear hRC hb6
        go_wp2_with fail
        (with_reducible refine HRC.out.mono ?_)
        rintro e w7 ⟨A7, c7, rfl, hc7, hcm7, h7, hb7⟩
        have B7 := Lib.hid (B6.out.trans (hb7.mono B6.out.size))
        have HSM := Lib.hid (same_it (c := c7) (c' := c') (h7 HLT.out) (HTT.out.go B7.out))
        rw [sm_iff.2 rfl] at HSM
        clear hb7 h7 hc7 hcm7 HRC
        go_wp2_with fail
        (with_reducible refine HSM.out.mono ?_)
        rintro e w8 ⟨rfl, hb8⟩
        have B8 := Lib.hid (B7.out.trans (hb8.mono B7.out.size))
        have hsi := HSI.out
        clear hb8 HSM
        go_wp2
        go_ret
        exact ⟨rfl, B8.out⟩
      | false =>
        have heq := HEQ.out false hq
        have hx := HNE.out (of_decide_eq_false hq) hrt
        rcases hx with h | h
        · subst h
          go_wp2_with (first
            | (refine wpList_load_w (by rfl) 54 (.tmp 9) rfl w3.heap.size 0 rfl C _ HRA.out Tryz.underlying54 rfl HIC.out ?_)
            | (refine wpList_load_w (by rfl) 54 (.tmp 11) rfl w4.heap.size 0 rfl E _ HRB.out Tryz.underlying54 rfl HIE.out ?_))
          (with_reducible refine (HSND.out _ B5.out).mono ?_)
          rintro e w6 ⟨rfl, hb6⟩
          have B6 := Lib.hid (B5.out.trans (hb6.mono B5.out.size))
          have hRC := rcv_call (tK := tK) (tS := tS) (l := t) (by rw [HL4.out]; decide) c' HC1.out HC2.out (HTT.out.go B6.out) (HKK.out.go B6.out) HF4.out
          rw [HR4.out.1, HR4.out.2] at hRC
          have HRC := Lib.hid hRC
          clear hRC hb6
          go_wp2_with fail
          (with_reducible refine HRC.out.mono ?_)
          rintro e w7 ⟨A7, c7, rfl, hc7, hcm7, h7, hb7⟩
          have B7 := Lib.hid (B6.out.trans (hb7.mono B6.out.size))
          have HSM := Lib.hid (same_it (c := c7) (c' := c') (h7 HLT.out) (HTT.out.go B7.out))
          rw [sm_iff.2 rfl] at HSM
          clear hb7 h7 hc7 hcm7 HRC
          go_wp2_with fail
          (with_reducible refine HSM.out.mono ?_)
          rintro e w8 ⟨rfl, hb8⟩
          have B8 := Lib.hid (B7.out.trans (hb8.mono B7.out.size))
          have hsi := HSI.out
          clear hb8 HSM
          go_wp2
          go_ret
          exact ⟨rfl, B8.out⟩
        · subst h
          go_wp2_with (first
            | (refine wpList_load_w (by rfl) 54 (.tmp 9) rfl w3.heap.size 0 rfl C _ HRA.out Tryz.underlying54 rfl HIC.out ?_)
            | (refine wpList_load_w (by rfl) 54 (.tmp 11) rfl w4.heap.size 0 rfl E _ HRB.out Tryz.underlying54 rfl HIE.out ?_))
          (with_reducible refine (HSND.out _ B5.out).mono ?_)
          rintro e w6 ⟨rfl, hb6⟩
          have B6 := Lib.hid (B5.out.trans (hb6.mono B5.out.size))
          have hRC := rcv_call (tK := tK) (tS := tS) (l := t) (by rw [HL4.out]; decide) c' HC1.out HC2.out (HTT.out.go B6.out) (HKK.out.go B6.out) HF4.out
          rw [HR4.out.1, HR4.out.2] at hRC
          have HRC := Lib.hid hRC
          clear hRC hb6
          go_wp2_with fail
          (with_reducible refine HRC.out.mono ?_)
          rintro e w7 ⟨A7, c7, rfl, hc7, hcm7, h7, hb7⟩
          have B7 := Lib.hid (B6.out.trans (hb7.mono B6.out.size))
          have HSM := Lib.hid (same_it (c := c7) (c' := c') (h7 HLT.out) (HTT.out.go B7.out))
          rw [sm_iff.2 rfl] at HSM
          clear hb7 h7 hc7 hcm7 HRC
          go_wp2_with fail
          (with_reducible refine HSM.out.mono ?_)
          rintro e w8 ⟨rfl, hb8⟩
          have B8 := Lib.hid (B7.out.trans (hb8.mono B7.out.size))
          have hsi := HSI.out
          clear hb8 HSM
          go_wp2
          go_ret
          exact ⟨rfl, B8.out⟩
    · subst h
      clear HEQ HXM
      go_wp2_with fail
      (with_reducible refine (HSND.out _ B5.out).mono ?_)
      rintro e w6 ⟨rfl, hb6⟩
      have B6 := Lib.hid (B5.out.trans (hb6.mono B5.out.size))
      have hRC := rcv_call (tK := tK) (tS := tS) (l := t) (by rw [HL4.out]; decide) c' HC1.out HC2.out (HTT.out.go B6.out) (HKK.out.go B6.out) HF4.out
      rw [HR4.out.1, HR4.out.2] at hRC
      have HRC := Lib.hid hRC
      clear hRC hb6
      go_wp2_with fail
      (with_reducible refine HRC.out.mono ?_)
      rintro e w7 ⟨A7, c7, rfl, hc7, hcm7, h7, hb7⟩
      have B7 := Lib.hid (B6.out.trans (hb7.mono B6.out.size))
      have HSM := Lib.hid (same_it (c := c7) (c' := c') (h7 HLT.out) (HTT.out.go B7.out))
      rw [sm_iff.2 rfl] at HSM
      clear hb7 h7 hc7 hcm7 HRC
      go_wp2_with fail
      (with_reducible refine HSM.out.mono ?_)
      rintro e w8 ⟨rfl, hb8⟩
      have B8 := Lib.hid (B7.out.trans (hb8.mono B7.out.size))
      have hsi := HSI.out
      clear hb8 HSM
      go_wp2
      go_ret
      exact ⟨rfl, B8.out⟩
  · have HE := Lib.hid (snd_no hr)
    rw [HE.out.1, HE.out.2] at HSN
    clear hr
    go_wp2_with fail
    (with_reducible refine HSN.out.mono ?_)
    rintro e w2 ⟨rfl, hb2⟩
    have B2 := Lib.hid (B1.out.trans (hb2.mono B1.out.size))
    clear hb2
    go_wp2
    go_ret
    exact ⟨rfl, B2.out⟩
end Go.Proofs.YtjkmfonngbendaaGreatDoor.Se
