/- Contracts of the two ways in which a path's last name is told. -/
import Derived.Test.YtkmbophbjgfacaaPaE
namespace Go.Proofs.Ytkmbophbjgfacaa.Ph
set_option linter.unusedVariables false
open Go.ChangeShapes Go.WideShapes Go.ChangeAt Go.RowKit
open BigFrame
open Ar
/-- the names ahead of the last one, that, and which error -/
def laX (p : ByteArray) : Int := if spX p = 0 then (if spB p = [] then 10 else 0) else spX p
def laD (p : ByteArray) : List ByteArray := if laX p = 0 then (spB p).dropLast else []
def laN (p : ByteArray) : ByteArray := if laX p = 0 then (spB p).getLastD ByteArray.empty else ByteArray.empty
theorem la_err {p : ByteArray} (h : spX p ≠ 0) : laX p = spX p ∧ laD p = [] ∧ laN p = ByteArray.empty := by
  have e : laX p = spX p := by unfold laX; rw [if_neg h]
  refine ⟨e, ?_, ?_⟩
  · unfold laD; rw [e, if_neg h]
  · unfold laN; rw [e, if_neg h]
theorem la_none {p : ByteArray} (h : spX p = 0) (h2 : spB p = []) : laX p = 10 ∧ laD p = [] ∧ laN p = ByteArray.empty := by
  have e : laX p = 10 := by unfold laX; rw [if_pos h, if_pos h2]
  refine ⟨e, ?_, ?_⟩
  · unfold laD; rw [e]; rfl
  · unfold laN; rw [e]; rfl
theorem la_ok {p : ByteArray} (h : spX p = 0) (h2 : spB p ≠ []) : laX p = 0 ∧ laD p = (spB p).take ((spB p).length - 1) ∧ (spB p)[(spB p).length - 1]? = some (laN p) := by
  have e : laX p = 0 := by unfold laX; rw [if_pos h, if_neg h2]
  have hl : 0 < (spB p).length := by cases hh : spB p with | nil => exact absurd hh h2 | cons a l => simp
  refine ⟨e, ?_, ?_⟩
  · unfold laD; rw [if_pos e, List.dropLast_eq_take]
  · unfold laN
    rw [if_pos e, List.getLastD_eq_getLast?, List.getLast?_eq_getElem?, List.getElem?_eq_getElem (by omega)]; rfl
def LastPost (w : World) (p : ByteArray) (e : Ending) (w' : World) : Prop :=
  ∃ A n c, e = .returned (.tuple #[.slice A n c, .string (laN p), .int .i64 (laX p)]) ∧ n = (laD p).length ∧ n ≤ c ∧ c ≤ maxLen ∧ Ls en1 1 w' w'.heap.size A (laD p) ∧ Below w.heap.size w w'
theorem LastPost.no {w w' : World} {p : ByteArray} {x : Int} (h : laX p = x ∧ laD p = [] ∧ laN p = ByteArray.empty) (hb : Below w.heap.size w w') : LastPost w p (.returned (.tuple #[.slice none 0 0, .string ByteArray.empty, .int .i64 x])) w' := by
  refine ⟨none, 0, 0, by rw [h.1, h.2.2], by rw [h.2.1]; rfl, Nat.le_refl _, Nat.zero_le _, ?_, hb⟩
  rw [h.2.1]
  exact Ls.nil
theorem below_q {w w1 : World} {B : Nat} (q : Nat) (h : Below B w w1) : Below B w (w1.drewN q) := ⟨h.os, h.tape, h.output, h.size, h.block⟩
theorem ls_q {w : World} {B : Nat} {A : Option Addr} {D : List ByteArray} (q : Nat) (h : Ls en1 1 w B A D) : Ls en1 1 (w.drewN q) B A D := h.below ⟨rfl, rfl, rfl, Nat.le_refl _, fun _ _ => rfl⟩
set_option maxRecDepth 100000 in
set_option maxHeartbeats 1000000 in
theorem last_any (p : ByteArray) (hp : p.size ≤ maxLen) (w : World) : Calls Try.prog 16 #[.string p] w (LastPost w p) := by
  have hx : ∃ x, x = spX p := ⟨_, rfl⟩
  obtain ⟨x, hx⟩ := hx
  have hd : ∃ D, D = spB p := ⟨_, rfl⟩
  obtain ⟨D, hd⟩ := hd
  have HX := Lib.hid hx
  have HD := Lib.hid hd
  have HC := Lib.hid (split_any p hp w)
  unfold maxLen at hp
  by_cases h0 : x = 0
  · by_cases hnil : D = []
    · have HS := Lib.hid (la_none (HX.out ▸ h0) (HD.out ▸ hnil))
      clear hx hd
      go_enter Try.func16, Try.ntmps16
      go_wp2_with fail
      go_at_call 14
      refine HC.out.mono ?_
      rintro e w1 ⟨v, he, hM⟩
      rw [← HX.out, h0] at he
      rw [← HD.out, hnil] at hM
      subst he
      obtain ⟨A, c, rfl, hc1, hc2, hL⟩ := hM.ls en1_len
      have HM := Lib.hid hM
      clear hM hL HC h0 hnil
      go_wp2
      go_ret3
      exact LastPost.no HS.out HM.out.2
    · have HS := Lib.hid (la_ok (HX.out ▸ h0) (HD.out ▸ hnil))
      have hpos : 0 < D.length := by cases D with | nil => exact absurd rfl hnil | cons a l => simp
      clear hx hd
      go_enter Try.func16, Try.ntmps16
      go_wp2_with fail
      go_at_call 14
      refine HC.out.mono ?_
      rintro e w1 ⟨v, he, hM⟩
      rw [← HX.out, h0] at he
      rw [← HD.out] at hM
      subst he
      obtain ⟨A, c, rfl, hc1, hc2, hL⟩ := hM.ls en1_len
      have HM := Lib.hid hM
      have HL := Lib.hid hL
      rw [← HD.out] at HS
      obtain ⟨b, o, hAe, hb, hcx⟩ := one_cell hL HS.out.2.2
      subst hAe
      clear hM hL HC h0 hnil
      obtain ⟨m, hm⟩ : ∃ m, m = D.length := ⟨_, rfl⟩
      rw [← hm] at hpos hc1 hcx HS HM
      rw [← hm]
      have HMm := Lib.hid hm
      clear hm
      unfold maxLen at hc2
      have d0 : ((m : Int) == 0) = false := by rw [beq_eq_false_iff_ne]; omega
      have e1 : o + (m - 1) = o + m - 1 := by omega
      obtain ⟨k, hk⟩ : ∃ k, m = k + 1 := ⟨m - 1, by omega⟩
      subst hk
      have hcx' : w1.cell? ⟨b, o + k, none⟩ = some (.string (laN p)) := hcx
      clear hcx e1
      have f1 : IntKind.i64.wrap (((k + 1 : Nat) : Int) - 1) = (k : Int) := by rw [show ((k + 1 : Nat) : Int) - 1 = (k : Int) by omega]; exact IntWalk.i64_in _ (by omega)
      go_wp2_with fail
      have f2 : 0 ≤ (k : Int) := by omega
      have f3 : (k : Int) ≤ (c : Int) := by omega
      go_quiet (fail)
      go_wp2
      go_ret3
      refine ⟨_, _, _, by rw [HS.out.1]; rfl, ?_, ?_, ?_, ?_, below_q _ HM.out.2⟩
      · rw [HS.out.2.1, List.length_take, ← HMm.out]; simp
      · omega
      · unfold maxLen; omega
      · rw [HS.out.2.1]
        exact ls_q _ ((HL.out).take _)
  · have h0' : (x == 0) = false := by rw [beq_eq_false_iff_ne]; exact h0
    have h0'' : (x != 0) = true := by rw [bne, h0']; rfl
    have HS := Lib.hid (la_err (HX.out ▸ h0))
    clear hx hd
    go_enter Try.func16, Try.ntmps16
    go_wp2_with fail
    go_at_call 14
    refine HC.out.mono ?_
    rintro e w1 ⟨v, he, hM⟩
    rw [← HX.out] at he
    rw [← HX.out] at HS
    subst he
    obtain ⟨A, c, rfl, hc1, hc2, hL⟩ := hM.ls en1_len
    have HM := Lib.hid hM
    clear hM hL HC
    go_wp2
    go_ret3
    exact LastPost.no HS.out HM.out.2
set_option maxRecDepth 100000 in
set_option maxHeartbeats 1000000 in
theorem refLast_any (p : ByteArray) (hp : p.size ≤ maxLen) (w : World) : Calls Try.prog 17 #[.string p] w (LastPost w p) := by
  have hx : ∃ x, x = spX p := ⟨_, rfl⟩
  obtain ⟨x, hx⟩ := hx
  have hd : ∃ D, D = spB p := ⟨_, rfl⟩
  obtain ⟨D, hd⟩ := hd
  have HX := Lib.hid hx
  have HD := Lib.hid hd
  have HC := Lib.hid (refSplit_any p hp w)
  unfold maxLen at hp
  by_cases h0 : x = 0
  · by_cases hnil : D = []
    · have HS := Lib.hid (la_none (HX.out ▸ h0) (HD.out ▸ hnil))
      clear hx hd
      go_enter Try.func17, Try.ntmps17
      go_wp2_with fail
      go_at_call 15
      refine HC.out.mono ?_
      rintro e w1 ⟨v, he, hM⟩
      rw [← HX.out, h0] at he
      rw [← HD.out, hnil] at hM
      subst he
      obtain ⟨A, c, rfl, hc1, hc2, hL⟩ := hM.ls en1_len
      have HM := Lib.hid hM
      clear hM hL HC h0 hnil
      go_wp2
      go_ret3
      exact LastPost.no HS.out HM.out.2
    · have HS := Lib.hid (la_ok (HX.out ▸ h0) (HD.out ▸ hnil))
      have hpos : 0 < D.length := by cases D with | nil => exact absurd rfl hnil | cons a l => simp
      clear hx hd
      go_enter Try.func17, Try.ntmps17
      go_wp2_with fail
      go_at_call 15
      refine HC.out.mono ?_
      rintro e w1 ⟨v, he, hM⟩
      rw [← HX.out, h0] at he
      rw [← HD.out] at hM
      subst he
      obtain ⟨A, c, rfl, hc1, hc2, hL⟩ := hM.ls en1_len
      have HM := Lib.hid hM
      have HL := Lib.hid hL
      rw [← HD.out] at HS
      obtain ⟨b, o, hAe, hb, hcx⟩ := one_cell hL HS.out.2.2
      subst hAe
      clear hM hL HC h0 hnil
      obtain ⟨m, hm⟩ : ∃ m, m = D.length := ⟨_, rfl⟩
      rw [← hm] at hpos hc1 hcx HS HM
      rw [← hm]
      have HMm := Lib.hid hm
      clear hm
      unfold maxLen at hc2
      have d0 : ((m : Int) == 0) = false := by rw [beq_eq_false_iff_ne]; omega
      have e1 : o + (m - 1) = o + m - 1 := by omega
      obtain ⟨k, hk⟩ : ∃ k, m = k + 1 := ⟨m - 1, by omega⟩
      subst hk
      have hcx' : w1.cell? ⟨b, o + k, none⟩ = some (.string (laN p)) := hcx
      clear hcx e1
      have f1 : IntKind.i64.wrap (((k + 1 : Nat) : Int) - 1) = (k : Int) := by rw [show ((k + 1 : Nat) : Int) - 1 = (k : Int) by omega]; exact IntWalk.i64_in _ (by omega)
      go_wp2_with fail
      have f2 : 0 ≤ (k : Int) := by omega
      have f3 : (k : Int) ≤ (c : Int) := by omega
      go_quiet (fail)
      go_wp2
      go_ret3
      refine ⟨_, _, _, by rw [HS.out.1]; rfl, ?_, ?_, ?_, ?_, below_q _ HM.out.2⟩
      · rw [HS.out.2.1, List.length_take, ← HMm.out]; simp
      · omega
      · unfold maxLen; omega
      · rw [HS.out.2.1]
        exact ls_q _ ((HL.out).take _)
  · have h0' : (x == 0) = false := by rw [beq_eq_false_iff_ne]; exact h0
    have h0'' : (x != 0) = true := by rw [bne, h0']; rfl
    have HS := Lib.hid (la_err (HX.out ▸ h0))
    clear hx hd
    go_enter Try.func17, Try.ntmps17
    go_wp2_with fail
    go_at_call 15
    refine HC.out.mono ?_
    rintro e w1 ⟨v, he, hM⟩
    rw [← HX.out] at he
    rw [← HX.out] at HS
    subst he
    obtain ⟨A, c, rfl, hc1, hc2, hL⟩ := hM.ls en1_len
    have HM := Lib.hid hM
    clear hM hL HC
    go_wp2
    go_ret3
    exact LastPost.no HS.out HM.out.2
end Go.Proofs.Ytkmbophbjgfacaa.Ph
