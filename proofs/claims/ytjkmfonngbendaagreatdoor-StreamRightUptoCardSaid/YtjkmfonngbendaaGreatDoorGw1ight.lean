/- Package stream: the walks of StreamOther and StreamRight. Written by mk_sfi.py. -/
import Derived.Test.YtjkmfonngbendaaGreatDoorGb4
namespace Go.Proofs.YtjkmfonngbendaaGreatDoor.Se
set_option linter.unusedVariables false
set_option linter.unusedSimpArgs false
set_option maxRecDepth 100000
open Go.ChangeShapes Go.WideShapes Go.ChangeAt Go.RowKit
open BigFrame
open Ar Rg
open Pk (be num be_length num_lt u8s u8s_length crc)
open Nd (S bs)
open Di (ItA ckE rgt rgt_iff Check_any L0 rgt_0 rootI New_any)
open It (Itm Ch rt rc itm er MkI MkC app dif apply_any rt_iff okI UpK key ckey lt same_any sm sm_iff don donL)
open Hk (hashOf)
variable {tK tS : TypeId}
theorem donL_len (c : Ch) : ∀ (D : List Itm) (put : Bool), (donL c put D).length ≤ D.length + (if put then 0 else 1)
  | [], put => by cases put <;> simp [donL]
  | x :: r, put => by
    rw [donL, List.length_append, List.length_append, List.length_cons]
    have h2 : (if key x = ckey c then [] else [x] : List Itm).length ≤ 1 := by split <;> simp
    cases put with
    | true =>
      have h3 := donL_len c r true
      simp only [Bool.not_true, Bool.false_and, Bool.true_or, if_true] at h3 ⊢
      simp only [Bool.false_eq_true, if_false, List.length_nil] at h3 ⊢
      omega
    | false =>
      cases h : lt (key x) (ckey c) with
      | true =>
        have h3 := donL_len c r false
        simp only [Bool.not_true, Bool.not_false, Bool.and_false, Bool.true_and, Bool.or_false, Bool.false_or, Bool.false_eq_true, if_false, List.length_nil] at h3 ⊢
        omega
      | false =>
        have h3 := donL_len c r true
        simp only [Bool.not_false, Bool.and_true, Bool.true_and, Bool.or_true, Bool.false_or, Bool.false_eq_true, if_false, if_true, List.length_nil, List.length_cons] at h3 ⊢
        omega
theorem app_len : ∀ (D : List Ch) (L : List Itm), (app L D).length ≤ L.length + D.length
  | [], L => Nat.le_refl _
  | c :: D, L => by
    rw [It.app_cons, List.length_cons]
    have h1 := app_len D (don c L)
    have h2 : (don c L).length ≤ L.length + 1 := Nat.le_trans (donL_len c L _) (by split <;> omega)
    omega
theorem tkn_len {l H : List UInt8} {D : List Ch} (h : tkn l = some (H, D)) : D.length ≤ l.length := by
  unfold tkn at h
  split at h
  · cases h
  · split at h
    · split at h
      · cases h
        have := s4_len (l.take (l.length - 4))
        rw [List.length_take] at this
        omega
      · cases h
    · cases h
theorem rcv_cases (L : List Itm) (l : List UInt8) : (okb L = false ∧ rcvE L l = 9) ∨ rcvE L l = 16 ∨ (rcvE L l = 0 ∧ rgt (rcvL L l) = true ∧ ∃ D, tkn l = some (hashOf (mkL L), D) ∧ rcvL L l = app L D) := by
  cases ho : okb L with
  | false => exact .inl ⟨rfl, by unfold rcvE; rw [ho]; rfl⟩
  | true =>
    cases ht : tkn l with
    | none => exact .inr (.inl (by unfold rcvE; rw [ho, ht]; rfl))
    | some p =>
      obtain ⟨H, D⟩ := p
      by_cases h : H = hashOf (mkL L) ∧ rc D = true ∧ rgt (app L D) = true
      · have e : rcvE L l = 0 := by unfold rcvE; rw [ho, ht]; exact if_pos h
        have e2 : rcvL L l = app L D := by unfold rcvL; rw [if_pos e, ht]
        exact .inr (.inr ⟨e, by rw [e2]; exact h.2.2, D, by rw [h.1], e2⟩)
      · exact .inr (.inl (by unfold rcvE; rw [ho, ht]; exact if_neg h))
set_option maxHeartbeats 4000000 in
theorem streamRight_walk {w : World} {A : Option Addr} {n : Nat} (c : Nat) {L : List Itm} (s : ByteArray) (hL : ItA w A n L) (hc : n ≤ c) (hcm : c ≤ maxLen) (hz : n + s.size ≤ 1048576) (hK : Kt tK tS w) :
    Calls Tryz.prog 7 #[.slice A n c, .string s] w fun e w' => e = .returned (.bool true) ∧ Below w.heap.size w w' := by
  obtain ⟨l, hl, hlz⟩ : ∃ l : List UInt8, s = bs l ∧ l.length = s.size := ⟨s.data.toList, rfl, by rw [Array.length_toList]; rfl⟩
  subst hl
  have HLL := Lib.hid hL
  have HKK := Lib.hid hK
  have HLV := Lib.hid (lives_true w hK)
  have HFT := Lib.hid (show ∀ H D, tkn l = some (H, D) → (app L D).length ≤ 1048576 from fun H D h => by
    have h1 := tkn_len h
    have h2 := app_len D L
    have h3 := hL.1
    omega)
  have HRC := Lib.hid (fun w1 (B1 : Below w.heap.size w w1) => rcv_call (tK := tK) (tS := tS) (l := l) (by omega) c hc hcm (hL.go B1) (hK.go B1) HFT.out)
  have HN0 := Lib.hid (show okb L = false → 0 < n from fun h => by
    rw [hL.1]
    cases L with
    | nil => rw [okb_nil] at h; cases h
    | cons x L => exact Nat.succ_pos _)
  clear hL hK hc hcm hz hlz
  rcases rcv_cases L l with ⟨h, h9⟩ | h16 | ⟨h0, hr, D, hD, hA⟩
  · have hno : rcvL L l = [] := rcvL_no (by rw [h9]; decide)
    rw [h9, hno] at HRC
    have hpos := HN0.out h
    clear h h9 hno HFT
    go_enter Tryz.func7, Tryz.ntmps7
    go_wp2_with fail
    (with_reducible refine HLV.out.mono ?_)
    rintro e w1 ⟨rfl, hb1⟩
    have B1 := Lib.hid hb1
    clear hb1
    go_wp2_with fail
    (with_reducible refine (HRC.out _ B1.out).mono ?_)
    rintro e w2 ⟨A2, c2, rfl, _, _, _, hb2⟩
    have B2 := Lib.hid (B1.out.trans (hb2.mono B1.out.size))
    clear hb2 HRC
    have hposI : (0 : Int) < (n : Int) := by omega
    have hne : ¬ n = 0 := by omega
    go_wp2
    go_ret
    exact ⟨rfl, B2.out⟩
  · have hno : rcvL L l = [] := rcvL_no (by rw [h16]; decide)
    rw [h16, hno] at HRC
    clear h16 hno HFT
    go_enter Tryz.func7, Tryz.ntmps7
    go_wp2_with fail
    (with_reducible refine HLV.out.mono ?_)
    rintro e w1 ⟨rfl, hb1⟩
    have B1 := Lib.hid hb1
    clear hb1
    go_wp2_with fail
    (with_reducible refine (HRC.out _ B1.out).mono ?_)
    rintro e w2 ⟨A2, c2, rfl, _, _, _, hb2⟩
    have B2 := Lib.hid (B1.out.trans (hb2.mono B1.out.size))
    clear hb2 HRC
    go_wp2
    go_ret
    exact ⟨rfl, B2.out⟩
  · rw [h0] at HRC
    have HLE := Lib.hid (show (rcvL L l).length ≤ 1048576 by rw [hA]; exact HFT.out _ _ hD)
    obtain ⟨M, hM⟩ : ∃ M, rcvL L l = M := ⟨_, rfl⟩
    rw [hM] at HRC HLE hr
    have HCE := Lib.hid (show ckE M = 0 by unfold ckE; rw [hr]; rfl)
    clear h0 hr hD hA hM HFT
    go_enter Tryz.func7, Tryz.ntmps7
    go_wp2_with fail
    (with_reducible refine HLV.out.mono ?_)
    rintro e w1 ⟨rfl, hb1⟩
    have B1 := Lib.hid hb1
    clear hb1
    go_wp2_with fail
    (with_reducible refine (HRC.out _ B1.out).mono ?_)
    rintro e w2 ⟨A2, c2, rfl, _, _, h2, hb2⟩
    have B2 := Lib.hid (B1.out.trans (hb2.mono B1.out.size))
    have HCK := Lib.hid (Check_any c2 (h2 HLE.out))
    rw [HCE.out] at HCK
    clear hb2 HRC h2
    go_wp2_with fail
    (with_reducible refine HCK.out.mono ?_)
    rintro e w3 ⟨rfl, hb3⟩
    have B3 := Lib.hid (B2.out.trans (hb3.mono B2.out.size))
    clear hb3 HCK
    go_wp2
    go_ret
    exact ⟨rfl, B3.out⟩
end Go.Proofs.YtjkmfonngbendaaGreatDoor.Se
