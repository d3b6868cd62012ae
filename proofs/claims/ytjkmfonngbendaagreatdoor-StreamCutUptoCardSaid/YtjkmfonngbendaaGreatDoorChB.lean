/- Contracts of package slices' swapRangeCmpFunc and rotateCmpFunc at changes. -/
import Derived.Test.YtjkmfonngbendaaGreatDoorChA
namespace Go.Proofs.YtjkmfonngbendaaGreatDoor.Sc
set_option linter.unusedVariables false
set_option maxRecDepth 100000
open Go.ChangeShapes Go.WideShapes Go.ChangeAt Go.RowKit
open Ar Rg
section
variable {α : Type}
theorem set_mid (A B : List α) (x y : α) (i : Nat) (h : i = A.length) : (A ++ x :: B).set i y = A ++ y :: B := by
  subst h
  rw [List.set_append_right _ _ (Nat.le_refl _), Nat.sub_self, List.set_cons_zero]
theorem get_mid (A B : List α) (x : α) (i : Nat) (h : i = A.length) : (A ++ x :: B)[i]? = some x := by
  subst h
  rw [List.getElem?_append_right (Nat.le_refl _), Nat.sub_self]
  rfl
/-- i elements of U and V changed places -/
def sw (P U M V R : List α) (i : Nat) : List α := P ++ (V.take i ++ (U.drop i ++ (M ++ (U.take i ++ (V.drop i ++ R)))))
theorem sw_zero (P U M V R : List α) : sw P U M V R 0 = P ++ (U ++ (M ++ (V ++ R))) := by simp [sw]
theorem sw_all (P U M V R : List α) (h : U.length = V.length) : sw P U M V R U.length = P ++ (V ++ (M ++ (U ++ R))) := by
  unfold sw
  rw [List.take_of_length_le (by omega), List.drop_of_length_le (Nat.le_refl _), List.take_of_length_le (Nat.le_refl _), List.drop_of_length_le (by omega)]
  simp
theorem sw_length (P U M V R : List α) (h : U.length = V.length) (i : Nat) (hi : i ≤ U.length) : (sw P U M V R i).length = (P ++ (U ++ (M ++ (V ++ R)))).length := by
  unfold sw
  simp only [List.length_append, List.length_take, List.length_drop]
  omega
theorem sw_form (P U M V R : List α) (h : U.length = V.length) (i : Nat) (hi : i < U.length) : sw P U M V R i = (P ++ V.take i) ++ U[i] :: (U.drop (i + 1) ++ (M ++ (U.take i ++ V[i]'(by omega) :: (V.drop (i + 1) ++ R)))) := by
  unfold sw
  rw [List.drop_eq_getElem_cons hi, List.drop_eq_getElem_cons (l := V) (by omega)]
  simp only [List.append_assoc, List.cons_append]
theorem sw_form2 (P U M V R : List α) (h : U.length = V.length) (i : Nat) (hi : i < U.length) (z : α) : (P ++ V.take i) ++ z :: (U.drop (i + 1) ++ (M ++ (U.take i ++ V[i]'(by omega) :: (V.drop (i + 1) ++ R)))) = ((P ++ V.take i) ++ z :: (U.drop (i + 1) ++ (M ++ U.take i))) ++ V[i]'(by omega) :: (V.drop (i + 1) ++ R) := by simp
theorem sw_step (P U M V R : List α) (h : U.length = V.length) (i : Nat) (hi : i < U.length) :
    ((sw P U M V R i).set (P.length + i) (V[i]'(by omega))).set (P.length + U.length + M.length + i) (U[i]) = sw P U M V R (i + 1) := by
  rw [sw_form P U M V R h i hi, set_mid _ _ _ _ _ (by rw [List.length_append, List.length_take]; omega), sw_form2 P U M V R h i hi,
    set_mid _ _ _ _ _ (by simp only [List.length_append, List.length_cons, List.length_take, List.length_drop]; omega)]
  unfold sw
  rw [List.take_succ_eq_append_getElem hi, List.take_succ_eq_append_getElem (l := V) (by omega)]
  simp only [List.append_assoc, List.cons_append, List.nil_append]
theorem sw_left (P U M V R : List α) (h : U.length = V.length) (i : Nat) (hi : i < U.length) : (sw P U M V R i)[P.length + i]? = some U[i] := by
  rw [sw_form P U M V R h i hi]
  exact get_mid _ _ _ _ (by rw [List.length_append, List.length_take]; omega)
theorem sw_right (P U M V R : List α) (h : U.length = V.length) (i : Nat) (hi : i < U.length) : (sw P U M V R i)[P.length + U.length + M.length + i]? = some (V[i]'(by omega)) := by
  rw [sw_form P U M V R h i hi, sw_form2 P U M V R h i hi]
  exact get_mid _ _ _ _ (by simp only [List.length_append, List.length_cons, List.length_take, List.length_drop]; omega)
end
set_option maxRecDepth 100000 in
set_option maxHeartbeats 1000000 in
theorem swapRange_any (P U M V R : List Ch) (h : U.length = V.length) (g cap : Nat) (F : Value) (hL : (P ++ (U ++ (M ++ (V ++ R)))).length ≤ cap) (hm : (P ++ (U ++ (M ++ (V ++ R)))).length ≤ 281474976710656) (w : World) (hA : Arr enc 3 w g (P ++ (U ++ (M ++ (V ++ R))))) :
    Calls Tryz.prog 212 #[.slice (some ⟨g, 0, none⟩) (P ++ (U ++ (M ++ (V ++ R)))).length cap, .int .i64 P.length, .int .i64 (P.length + U.length + M.length : Nat), .int .i64 U.length, F] w fun e w' => e = .returned (.tuple #[]) ∧ w.grownBy w' (some g) ∧ Arr enc 3 w' g (P ++ (V ++ (M ++ (U ++ R)))) := by
  obtain ⟨N, hN⟩ : ∃ N, N = (P ++ (U ++ (M ++ (V ++ R)))).length := ⟨_, rfl⟩
  have hN1 : P.length + U.length + M.length + V.length ≤ N := by rw [hN]; simp only [List.length_append]; omega
  rw [← hN] at hL hm ⊢
  have HN := Lib.hid hN
  have HA := Lib.hid hA
  clear hA hN
  obtain ⟨a, ha⟩ : ∃ a, a = P.length := ⟨_, rfl⟩
  obtain ⟨b, hb⟩ : ∃ b, b = P.length + U.length + M.length := ⟨_, rfl⟩
  obtain ⟨n, hn⟩ : ∃ n, n = U.length := ⟨_, rfl⟩
  rw [← hb, ← ha, ← hn]
  have hbn : b + n ≤ N := by omega
  have hab : a + n ≤ b := by omega
  have HAE := Lib.hid ha
  have HBE := Lib.hid hb
  have HNE := Lib.hid hn
  have HH := Lib.hid h
  clear ha hb hn hN1 h
  go_enter Tryz.func212, Tryz.ntmps212
  go_wp2_with fail
  go_loopw [10] (fun v wr => ∃ i : Nat, i ≤ n ∧ v = .int .i64 i ∧ Arr enc 3 wr g (sw P U M V R i) ∧ w.grownBy wr (some g)) (fun v _ => n - (intOf v).toNat)
  case atStart => exact ⟨0, Nat.zero_le _, rfl, by rw [sw_zero]; exact HA.out, grown_refl _ _⟩
  case round =>
    obtain ⟨i, hi, rfl, hAr, hgr⟩ := hrel
    by_cases hlt : i < n
    · have HAr := Lib.hid hAr
      have HG := Lib.hid hgr
      clear hAr hgr
      have q1 : (0 : Int) ≤ (a : Int) + (i : Int) := by omega
      have q2 : (a : Int) + (i : Int) < (N : Int) := by omega
      have q3 : (0 : Int) ≤ (b : Int) + (i : Int) := by omega
      have q4 : (b : Int) + (i : Int) < (N : Int) := by omega
      go_wp2_with fail
      refine wp_region_held_drew (S := fun _ => True) (by kernel_rfl) trivial (fun hHeld => ?_)
      refine take_at 0 16 (.slice (some ⟨g, 0, none⟩) N cap) rfl (by rfl) (by kernel_rfl) (by kernel_rfl) (by kernel_rfl) (fun _ _ _ h => h) (Or.inl ⟨by rfl, fun w' hSw => by go_simp⟩) (by assumption) ?_
      simp only [List.setIfInBounds_toArray, List.set_cons_zero, List.set_cons_succ]
      refine take_at 1 17 (.int .i64 a) rfl (by rfl) (by kernel_rfl) (by kernel_rfl) (by kernel_rfl) (fun _ _ _ h => h) (Or.inl ⟨by rfl, fun w' hSw => by go_simp⟩) (by assumption) ?_
      simp only [List.setIfInBounds_toArray, List.set_cons_zero, List.set_cons_succ]
      refine take_at 2 18 (.int .i64 i) rfl (by rfl) (by kernel_rfl) (by kernel_rfl) (by kernel_rfl) (fun _ _ _ h => h) (Or.inl ⟨by rfl, fun w' hSw => by go_simp⟩) (by assumption) ?_
      simp only [List.setIfInBounds_toArray, List.set_cons_zero, List.set_cons_succ]
      refine take_at 3 19 (.int .i64 ((a : Int) + (i : Int))) rfl (by rfl) (by kernel_rfl) (by kernel_rfl) (by kernel_rfl) (fun _ _ _ h => h) (Or.inl ⟨by rfl, fun w' hSw => by go_simp <;> exact IntWalk.i64_in _ ⟨by omega, by omega⟩⟩) (by assumption) ?_
      simp only [List.setIfInBounds_toArray, List.set_cons_zero, List.set_cons_succ]
      refine take_at 4 20 (.slice (some ⟨g, 0, none⟩) N cap) rfl (by rfl) (by kernel_rfl) (by kernel_rfl) (by kernel_rfl) (fun _ _ _ h => h) (Or.inl ⟨by rfl, fun w' hSw => by go_simp⟩) (by assumption) ?_
      simp only [List.setIfInBounds_toArray, List.set_cons_zero, List.set_cons_succ]
      refine take_at 5 21 (.int .i64 b) rfl (by rfl) (by kernel_rfl) (by kernel_rfl) (by kernel_rfl) (fun _ _ _ h => h) (Or.inl ⟨by rfl, fun w' hSw => by go_simp⟩) (by assumption) ?_
      simp only [List.setIfInBounds_toArray, List.set_cons_zero, List.set_cons_succ]
      refine take_at 6 22 (.int .i64 i) rfl (by rfl) (by kernel_rfl) (by kernel_rfl) (by kernel_rfl) (fun _ _ _ h => h) (Or.inl ⟨by rfl, fun w' hSw => by go_simp⟩) (by assumption) ?_
      simp only [List.setIfInBounds_toArray, List.set_cons_zero, List.set_cons_succ]
      refine take_at 7 23 (.int .i64 ((b : Int) + (i : Int))) rfl (by rfl) (by kernel_rfl) (by kernel_rfl) (by kernel_rfl) (fun _ _ _ h => h) (Or.inl ⟨by rfl, fun w' hSw => by go_simp <;> exact IntWalk.i64_in _ ⟨by omega, by omega⟩⟩) (by assumption) ?_
      simp only [List.setIfInBounds_toArray, List.set_cons_zero, List.set_cons_succ]
      refine take_at 8 24 (.slice (some ⟨g, 0, none⟩) N cap) rfl (by rfl) (by kernel_rfl) (by kernel_rfl) (by kernel_rfl) (fun _ _ _ h => h) (Or.inl ⟨by rfl, fun w' hSw => by go_simp⟩) (by assumption) ?_
      simp only [List.setIfInBounds_toArray, List.set_cons_zero, List.set_cons_succ]
      refine take_at 9 25 (.int .i64 b) rfl (by rfl) (by kernel_rfl) (by kernel_rfl) (by kernel_rfl) (fun _ _ _ h => h) (Or.inl ⟨by rfl, fun w' hSw => by go_simp⟩) (by assumption) ?_
      simp only [List.setIfInBounds_toArray, List.set_cons_zero, List.set_cons_succ]
      refine take_at 10 26 (.int .i64 i) rfl (by rfl) (by kernel_rfl) (by kernel_rfl) (by kernel_rfl) (fun _ _ _ h => h) (Or.inl ⟨by rfl, fun w' hSw => by go_simp⟩) (by assumption) ?_
      simp only [List.setIfInBounds_toArray, List.set_cons_zero, List.set_cons_succ]
      refine take_at 11 27 (.int .i64 ((b : Int) + (i : Int))) rfl (by rfl) (by kernel_rfl) (by kernel_rfl) (by kernel_rfl) (fun _ _ _ h => h) (Or.inl ⟨by rfl, fun w' hSw => by go_simp <;> exact IntWalk.i64_in _ ⟨by omega, by omega⟩⟩) (by assumption) ?_
      simp only [List.setIfInBounds_toArray, List.set_cons_zero, List.set_cons_succ]
      refine take_at 12 28 (.pointer (some ⟨g, (b + i) * 3, none⟩)) rfl (by rfl) (by kernel_rfl) (by kernel_rfl) (by kernel_rfl) (fun _ _ _ h => h) (Or.inl ⟨by rfl, fun w' hSw => by go_simp⟩) (by assumption) ?_
      simp only [List.setIfInBounds_toArray, List.set_cons_zero, List.set_cons_succ]
      refine take_at 14 30 (.slice (some ⟨g, 0, none⟩) N cap) rfl (by rfl) (by kernel_rfl) (by kernel_rfl) (by kernel_rfl) (fun _ _ _ h => h) (Or.inl ⟨by rfl, fun w' hSw => by go_simp⟩) (by assumption) ?_
      simp only [List.setIfInBounds_toArray, List.set_cons_zero, List.set_cons_succ]
      refine take_at 15 31 (.int .i64 a) rfl (by rfl) (by kernel_rfl) (by kernel_rfl) (by kernel_rfl) (fun _ _ _ h => h) (Or.inl ⟨by rfl, fun w' hSw => by go_simp⟩) (by assumption) ?_
      simp only [List.setIfInBounds_toArray, List.set_cons_zero, List.set_cons_succ]
      refine take_at 16 32 (.int .i64 i) rfl (by rfl) (by kernel_rfl) (by kernel_rfl) (by kernel_rfl) (fun _ _ _ h => h) (Or.inl ⟨by rfl, fun w' hSw => by go_simp⟩) (by assumption) ?_
      simp only [List.setIfInBounds_toArray, List.set_cons_zero, List.set_cons_succ]
      refine take_at 17 33 (.int .i64 ((a : Int) + (i : Int))) rfl (by rfl) (by kernel_rfl) (by kernel_rfl) (by kernel_rfl) (fun _ _ _ h => h) (Or.inl ⟨by rfl, fun w' hSw => by go_simp <;> exact IntWalk.i64_in _ ⟨by omega, by omega⟩⟩) (by assumption) ?_
      simp only [List.setIfInBounds_toArray, List.set_cons_zero, List.set_cons_succ]
      refine take_at 18 34 (.pointer (some ⟨g, (a + i) * 3, none⟩)) rfl (by rfl) (by kernel_rfl) (by kernel_rfl) (by kernel_rfl) (fun _ _ _ h => h) (Or.inl ⟨by rfl, fun w' hSw => by go_simp⟩) (by assumption) ?_
      simp only [List.setIfInBounds_toArray, List.set_cons_zero, List.set_cons_succ]
      have HAd := Lib.hid (show Arr enc 3 wr.drew g (sw P U M V R i) from HAr.out)
      have HGd := Lib.hid (grown_trans HG.out (grown_drew wr (some g)))
      generalize wr.drew = X at *
      obtain ⟨x, hx⟩ : ∃ x, (sw P U M V R i)[a + i]? = some x := ⟨_, by rw [HAE.out]; exact sw_left P U M V R HH.out i (by rw [← HNE.out]; exact hlt)⟩
      obtain ⟨y, hy⟩ : ∃ y, (sw P U M V R i)[b + i]? = some y := ⟨_, by rw [HBE.out]; exact sw_right P U M V R HH.out i (by rw [← HNE.out]; exact hlt)⟩
      have ll : a + i < (sw P U M V R i).length := (List.getElem?_eq_some_iff.1 hx).1
      have lr : b + i < ((sw P U M V R i).set (a + i) y).length := by rw [List.length_set]; exact (List.getElem?_eq_some_iff.1 hy).1
      have H1 := Lib.hid (HAd.out.store enc_len ll y)
      have H2 := Lib.hid (show Arr enc 3 ((X.setCells g ((a + i) * 3) (enc y)).setCells g ((b + i) * 3) (enc x)) g (sw P U M V R (i + 1)) by
        have hs := sw_step P U M V R HH.out i (by rw [← HNE.out]; exact hlt)
        have ex : x = U[i]'(by rw [← HNE.out]; exact hlt) := by
          have := sw_left P U M V R HH.out i (by rw [← HNE.out]; exact hlt)
          rw [← HAE.out] at this
          exact Option.some.inj (hx.symm.trans this)
        have ey : y = V[i]'(by rw [← HH.out, ← HNE.out]; exact hlt) := by
          have := sw_right P U M V R HH.out i (by rw [← HNE.out]; exact hlt)
          rw [← HBE.out] at this
          exact Option.some.inj (hy.symm.trans this)
        rw [← hs, ← HAE.out, ← ex, ← ey]
        have hbe := HBE.out
        rw [← HAE.out] at hbe
        rw [← hbe]
        exact H1.out.store enc_len lr x)
      have G2 := Lib.hid (show w.grownBy ((X.setCells g ((a + i) * 3) (enc y)).setCells g ((b + i) * 3) (enc x)) (some g) from grown_trans (grown_trans HGd.out (grown_setCells _ _ _ _)) (grown_setCells _ _ _ _))
      have HX := Lib.hid (HAd.out.range hx)
      have HY := Lib.hid (HAd.out.range hy)
      clear hx hy
      refine wpAnyH_ready (rs := [13, 19]) (by kernel_rfl) (by simp) ?_
      refine all_at 13 29 (.agg (enc y).toArray) X rfl (by rfl) (by rfl) (load_run 41 (.tmp 28) rfl g ((b + i) * 3) rfl (enc y) _ HY.out Tryz.underlying41 rfl (by rw [enc_len]; exact infoE)) trivial (fun hHeld => ?_) ?_
      · simp only [List.setIfInBounds_toArray, List.set_cons_zero, List.set_cons_succ]
        refine wpAnyH_ready (rs := [19]) (by kernel_rfl) (by simp) ?_
        refine all_at 19 35 (.agg (enc x).toArray) X rfl (by rfl) (by rfl) (load_run 41 (.tmp 34) rfl g ((a + i) * 3) rfl (enc x) _ HX.out Tryz.underlying41 rfl (by rw [enc_len]; exact infoE)) trivial (fun hHeld => ?_) all_nil
        simp only [List.setIfInBounds_toArray, List.set_cons_zero, List.set_cons_succ]
        refine take_at 20 36 (.pointer (some ⟨g, (a + i) * 3, none⟩)) rfl (by rfl) (by kernel_rfl) (by kernel_rfl) (by kernel_rfl) (fun _ _ _ h => h) (Or.inl ⟨by rfl, fun w' hSw => by go_simp⟩) (by assumption) ?_
        simp only [List.setIfInBounds_toArray, List.set_cons_zero, List.set_cons_succ]
        refine wpAnyH_ready (rs := [21]) (by kernel_rfl) (by simp) ?_
        refine all_wp 21 _ (X.setCells g ((a + i) * 3) (enc y)) rfl (by rfl) (fun K' hk => wp_store_mid 41 (.tmp 36) (.tmp 29) rfl g ((a + i) * 3) (enc y).toArray rfl rfl (HAd.out.there enc_len ll) (by rw [List.size_toArray, enc_len]; exact infoE) (all_oneCell_toArray (enc_one _)) (by simpa only [List.toList_toArray] using hk)) trivial (fun hHeld => ?_) all_nil
        simp only [Act.put]
        refine take_at 22 37 (.pointer (some ⟨g, (b + i) * 3, none⟩)) rfl (by rfl) (by kernel_rfl) (by kernel_rfl) (by kernel_rfl) (fun _ _ _ h => h) (Or.inl ⟨by rfl, fun w' hSw => by go_simp⟩) (by assumption) ?_
        simp only [List.setIfInBounds_toArray, List.set_cons_zero, List.set_cons_succ]
        refine wpAnyH_ready (rs := [23]) (by kernel_rfl) (by simp) ?_
        refine all_wp 23 _ ((X.setCells g ((a + i) * 3) (enc y)).setCells g ((b + i) * 3) (enc x)) rfl (by rfl) (fun K' hk => wp_store_mid 41 (.tmp 37) (.tmp 35) rfl g ((b + i) * 3) (enc x).toArray rfl rfl (H1.out.there enc_len lr) (by rw [List.size_toArray, enc_len]; exact infoE) (all_oneCell_toArray (enc_one _)) (by simpa only [List.toList_toArray] using hk)) trivial (fun hHeld => ?_) all_nil
        simp only [Act.put]
        refine wpAnyH_done (by kernel_rfl) ?_ _
        generalize ((X.setCells g ((a + i) * 3) (enc y)).setCells g ((b + i) * 3) (enc x)) = Z at *
        go_wp2
        go_roundw
        case rel => exact ⟨i + 1, by omega, by go_num, H2.out, G2.out⟩
        case measure => simp [intOf]; omega
      refine all_at 19 35 (.agg (enc x).toArray) X rfl (by rfl) (by rfl) (load_run 41 (.tmp 34) rfl g ((a + i) * 3) rfl (enc x) _ HX.out Tryz.underlying41 rfl (by rw [enc_len]; exact infoE)) trivial (fun hHeld => ?_) all_nil
      simp only [List.setIfInBounds_toArray, List.set_cons_zero, List.set_cons_succ]
      refine wpAnyH_ready (rs := [13]) (by kernel_rfl) (by simp) ?_
      refine all_at 13 29 (.agg (enc y).toArray) X rfl (by rfl) (by rfl) (load_run 41 (.tmp 28) rfl g ((b + i) * 3) rfl (enc y) _ HY.out Tryz.underlying41 rfl (by rw [enc_len]; exact infoE)) trivial (fun hHeld => ?_) all_nil
      simp only [List.setIfInBounds_toArray, List.set_cons_zero, List.set_cons_succ]
      refine take_at 20 36 (.pointer (some ⟨g, (a + i) * 3, none⟩)) rfl (by rfl) (by kernel_rfl) (by kernel_rfl) (by kernel_rfl) (fun _ _ _ h => h) (Or.inl ⟨by rfl, fun w' hSw => by go_simp⟩) (by assumption) ?_
      simp only [List.setIfInBounds_toArray, List.set_cons_zero, List.set_cons_succ]
      refine wpAnyH_ready (rs := [21]) (by kernel_rfl) (by simp) ?_
      refine all_wp 21 _ (X.setCells g ((a + i) * 3) (enc y)) rfl (by rfl) (fun K' hk => wp_store_mid 41 (.tmp 36) (.tmp 29) rfl g ((a + i) * 3) (enc y).toArray rfl rfl (HAd.out.there enc_len ll) (by rw [List.size_toArray, enc_len]; exact infoE) (all_oneCell_toArray (enc_one _)) (by simpa only [List.toList_toArray] using hk)) trivial (fun hHeld => ?_) all_nil
      simp only [Act.put]
      refine take_at 22 37 (.pointer (some ⟨g, (b + i) * 3, none⟩)) rfl (by rfl) (by kernel_rfl) (by kernel_rfl) (by kernel_rfl) (fun _ _ _ h => h) (Or.inl ⟨by rfl, fun w' hSw => by go_simp⟩) (by assumption) ?_
      simp only [List.setIfInBounds_toArray, List.set_cons_zero, List.set_cons_succ]
      refine wpAnyH_ready (rs := [23]) (by kernel_rfl) (by simp) ?_
      refine all_wp 23 _ ((X.setCells g ((a + i) * 3) (enc y)).setCells g ((b + i) * 3) (enc x)) rfl (by rfl) (fun K' hk => wp_store_mid 41 (.tmp 37) (.tmp 35) rfl g ((b + i) * 3) (enc x).toArray rfl rfl (H1.out.there enc_len lr) (by rw [List.size_toArray, enc_len]; exact infoE) (all_oneCell_toArray (enc_one _)) (by simpa only [List.toList_toArray] using hk)) trivial (fun hHeld => ?_) all_nil
      simp only [Act.put]
      refine wpAnyH_done (by kernel_rfl) ?_ _
      generalize ((X.setCells g ((a + i) * 3) (enc y)).setCells g ((b + i) * 3) (enc x)) = Z at *
      go_wp2
      go_roundw
      case rel => exact ⟨i + 1, by omega, by go_num, H2.out, G2.out⟩
      case measure => simp [intOf]; omega
    · obtain rfl : i = n := by omega
      have hfin : Arr enc 3 wr g (P ++ (V ++ (M ++ (U ++ R)))) := by
        have := sw_all P U M V R HH.out
        rw [← this, ← HNE.out]; exact hAr
      have HF := Lib.hid hfin
      clear hAr hfin
      go_wp2
      exact ⟨rfl, _, results_none rfl _ _ _, rfl, hgr, HF.out⟩
end Go.Proofs.YtjkmfonngbendaaGreatDoor.Sc
