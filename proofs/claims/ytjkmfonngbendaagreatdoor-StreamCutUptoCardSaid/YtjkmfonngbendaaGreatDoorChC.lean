/- Contract of package slices' rotateCmpFunc at changes: two neighbouring stretches change places. -/
import Derived.Test.YtjkmfonngbendaaGreatDoorChB
namespace Go.Proofs.YtjkmfonngbendaaGreatDoor.Sc
set_option linter.unusedVariables false
set_option maxRecDepth 100000
open Go.ChangeShapes Go.WideShapes Go.ChangeAt Go.RowKit
open Ar Rg
/-- swapRange, its arguments as numbers -/
theorem swapRange_at (P U M V R D : List Ch) (hD : D = P ++ (U ++ (M ++ (V ++ R)))) (h : U.length = V.length) (g cap N : Nat) (hN : N = D.length) (F : Value) (hL : N ≤ cap) (hm : N ≤ 281474976710656) (w : World) (hA : Arr enc 3 w g D)
    (a b n : Int) (ha : a = (P.length : Int)) (hb : b = (P.length : Int) + U.length + M.length) (hn : n = (U.length : Int)) :
    Calls Tryz.prog 212 #[.slice (some ⟨g, 0, none⟩) N cap, .int .i64 a, .int .i64 b, .int .i64 n, F] w fun e w' => e = .returned (.tuple #[]) ∧ w.grownBy w' (some g) ∧ Arr enc 3 w' g (P ++ (V ++ (M ++ (U ++ R)))) := by
  subst hD hN
  have := swapRange_any P U M V R h g cap F hL hm w hA
  rw [ha, hn, show b = ((P.length + U.length + M.length : Nat) : Int) by omega]
  exact this
/-- what the loop of rotate keeps: the two stretches that are still to change places lie before and behind place m -/
def Rot (T : List Ch) (m i j : Nat) (N : Nat) (g : Nat) (w wr : World) : Prop := ∃ P U V R : List Ch, Arr enc 3 wr g (P ++ (U ++ (V ++ R))) ∧ (P ++ (U ++ (V ++ R))).length = N ∧ U.length = i ∧ V.length = j ∧ P.length + i = m ∧ T = P ++ (V ++ (U ++ R)) ∧ w.grownBy wr (some g)
theorem rot_start {P X Y R D : List Ch} {g N : Nat} {w : World} (hD : D = P ++ (X ++ (Y ++ R))) (hN : N = D.length) (hA : Arr enc 3 w g D) : Rot (P ++ (Y ++ (X ++ R))) (P.length + X.length) X.length Y.length N g w w := by
  subst hD
  exact ⟨P, X, Y, R, hA, hN.symm, rfl, rfl, rfl, rfl, grown_refl _ _⟩
theorem rot_more {T : List Ch} {m i j N g : Nat} {w wr : World} (cap : Nat) (F : Value) (hL : N ≤ cap) (hm : N ≤ 281474976710656) (h : Rot T m i j N g w wr) (hij : j < i) :
    Calls Tryz.prog 212 #[.slice (some ⟨g, 0, none⟩) N cap, .int .i64 ((m : Int) - i), .int .i64 m, .int .i64 j, F] wr fun e w' => e = .returned (.tuple #[]) ∧ Rot T m (i - j) j N g w w' := by
  obtain ⟨P, U, V, R, hA, hN, hU, hV, hP, hT, hg⟩ := h
  have e1 : U = U.take j ++ U.drop j := (List.take_append_drop j U).symm
  have l1 : (U.take j).length = j := by rw [List.length_take]; omega
  have l2 : (U.drop j).length = i - j := by rw [List.length_drop]; omega
  generalize U.take j = U1 at *
  generalize U.drop j = U2 at *
  subst e1
  refine (swapRange_at P U1 U2 V R _ (by simp) (by omega) g cap N hN.symm F hL hm wr hA _ _ _ ?_ ?_ ?_).mono fun e w' h => ⟨h.1, P ++ V, U2, U1, R, ?_, ?_, l2, l1, ?_, ?_, grown_trans hg h.2.1⟩
  · simp only [List.length_append] at hU; omega
  · simp only [List.length_append] at hU; omega
  · omega
  · simpa using h.2.2
  · rw [← hN]; simp only [List.length_append]; omega
  · rw [List.length_append]; omega
  · rw [hT]; simp
theorem rot_less {T : List Ch} {m i j N g : Nat} {w wr : World} (cap : Nat) (F : Value) (hL : N ≤ cap) (hm : N ≤ 281474976710656) (h : Rot T m i j N g w wr) (hij : i < j) :
    Calls Tryz.prog 212 #[.slice (some ⟨g, 0, none⟩) N cap, .int .i64 ((m : Int) - i), .int .i64 ((m : Int) + j - i), .int .i64 i, F] wr fun e w' => e = .returned (.tuple #[]) ∧ Rot T m i (j - i) N g w w' := by
  obtain ⟨P, U, V, R, hA, hN, hU, hV, hP, hT, hg⟩ := h
  have e1 : V = V.take (j - i) ++ V.drop (j - i) := (List.take_append_drop (j - i) V).symm
  have l1 : (V.take (j - i)).length = j - i := by rw [List.length_take]; omega
  have l2 : (V.drop (j - i)).length = i := by rw [List.length_drop]; omega
  generalize V.take (j - i) = V1 at *
  generalize V.drop (j - i) = V2 at *
  subst e1
  refine (swapRange_at P U V1 V2 R _ (by simp) (by omega) g cap N hN.symm F hL hm wr hA _ _ _ ?_ ?_ ?_).mono fun e w' h => ⟨h.1, P, V2, V1, U ++ R, ?_, ?_, l2, l1, hP, ?_, grown_trans hg h.2.1⟩
  · omega
  · omega
  · omega
  · exact h.2.2
  · rw [← hN]; simp only [List.length_append]; omega
  · rw [hT]; simp
theorem rot_last {T : List Ch} {m i N g : Nat} {w wr : World} (cap : Nat) (F : Value) (hL : N ≤ cap) (hm : N ≤ 281474976710656) (h : Rot T m i i N g w wr) :
    Calls Tryz.prog 212 #[.slice (some ⟨g, 0, none⟩) N cap, .int .i64 ((m : Int) - i), .int .i64 m, .int .i64 i, F] wr fun e w' => e = .returned (.tuple #[]) ∧ w.grownBy w' (some g) ∧ Arr enc 3 w' g T := by
  obtain ⟨P, U, V, R, hA, hN, hU, hV, hP, hT, hg⟩ := h
  refine (swapRange_at P U [] V R _ (by simp) (by omega) g cap N hN.symm F hL hm wr hA _ _ _ ?_ ?_ ?_).mono fun e w' h => ⟨h.1, grown_trans hg h.2.1, ?_⟩
  · omega
  · simp only [List.length_nil]; omega
  · omega
  · rw [hT]; simpa using h.2.2
theorem Rot.bounds {T : List Ch} {m i j N g : Nat} {w wr : World} (h : Rot T m i j N g w wr) : i ≤ m ∧ m + j ≤ N := by
  obtain ⟨P, U, V, R, hA, hN, hU, hV, hP, hT, hg⟩ := h
  simp only [List.length_append] at hN
  omega
set_option maxRecDepth 100000 in
set_option maxHeartbeats 1000000 in
theorem rotate_any (P X Y R D : List Ch) (hD : D = P ++ (X ++ (Y ++ R))) (hX : 0 < X.length) (hY : 0 < Y.length) (g cap N : Nat) (hN : N = D.length) (F : Value) (hL : N ≤ cap) (hm : N ≤ 281474976710656) (w : World) (hA : Arr enc 3 w g D) (a m b : Int) (ha : a = (P.length : Int)) (hmm : m = (P.length : Int) + X.length) (hb : b = (P.length : Int) + X.length + Y.length) :
    Calls Tryz.prog 195 #[.slice (some ⟨g, 0, none⟩) N cap, .int .i64 a, .int .i64 m, .int .i64 b, F] w fun e w' => e = .returned (.tuple #[]) ∧ w.grownBy w' (some g) ∧ Arr enc 3 w' g (P ++ (Y ++ (X ++ R))) := by
  have hr := rot_start hD hN hA
  have hlen : P.length + X.length + Y.length ≤ N := by rw [hN, hD]; simp only [List.length_append]; omega
  generalize P ++ (Y ++ (X ++ R)) = T at *
  obtain ⟨M, hM⟩ : ∃ M : Nat, M = P.length + X.length := ⟨_, rfl⟩
  obtain ⟨A0, hA0⟩ : ∃ M : Nat, M = P.length := ⟨_, rfl⟩
  obtain ⟨xl, hxl⟩ : ∃ n, n = X.length := ⟨_, rfl⟩
  obtain ⟨yl, hyl⟩ : ∃ n, n = Y.length := ⟨_, rfl⟩
  rw [← hM, ← hxl, ← hyl] at hr
  rw [← hxl] at hmm hb hX hlen hM
  rw [← hyl] at hb hY hlen
  rw [← hA0] at ha hmm hb hlen hM
  have HR := Lib.hid hr
  have em : m = (M : Int) := by omega
  have eb : b = (M : Int) + yl := by omega
  have b1 : M + yl ≤ N := by omega
  have b2 : A0 + xl = M := by omega
  clear hA hD hN hmm hb hxl hyl hA0 hlen hr hM
  subst ha em eb
  go_enter Tryz.func195, Tryz.ntmps195
  go_wp2_with fail
  go_loopw [10, 11] (fun v u wr => ∃ i j : Nat, 0 < i ∧ 0 < j ∧ v = .int .i64 i ∧ u = .int .i64 j ∧ Hid (Rot T M i j N g w wr)) (fun v u _ => (intOf v).toNat + (intOf u).toNat)
  case atStart => exact ⟨xl, yl, hX, hY, by go_num, by go_num, HR.out⟩
  case round =>
    clear HR
    obtain ⟨i, j, hi, hj, rfl, rfl, hrot⟩ := hrel
    have hbd := (Hid.out hrot).bounds
    obtain ⟨hb1, hb2⟩ := hbd
    by_cases hij : i = j
    · subst hij
      have hne : ((i : Int) != (i : Int)) = false := by simp
      go_wp2_with (go_at_call 212; refine (rot_last cap F hL hm (Hid.out hrot)).mono ?_; rintro e w' ⟨rfl, hgw, hAw⟩)
      have HF := Lib.hid hAw
      clear hAw
      go_wp2
      exact ⟨rfl, _, results_none rfl _ _ _, rfl, hgw, HF.out⟩
    · have hne : ((i : Int) != (j : Int)) = true := by rw [bne_iff_ne]; omega
      by_cases hlt : j < i
      · go_wp2_with (go_at_call 212; refine (rot_more cap F hL hm (Hid.out hrot) hlt).mono ?_; rintro e w' ⟨rfl, hrw⟩; have HW := Lib.hid hrw; clear hrw)
        exact ⟨⟨i - j, j, by omega, hj, by go_num, rfl, HW.out⟩, by simp [intOf]; omega⟩
      · have hlt2 : i < j := by omega
        go_wp2_with (go_at_call 212; refine (rot_less cap F hL hm (Hid.out hrot) hlt2).mono ?_; rintro e w' ⟨rfl, hrw⟩; have HW := Lib.hid hrw; clear hrw)
        exact ⟨⟨i, j - i, hi, by omega, rfl, by go_num, HW.out⟩, by simp [intOf]; omega⟩
end Go.Proofs.YtjkmfonngbendaaGreatDoor.Sc
