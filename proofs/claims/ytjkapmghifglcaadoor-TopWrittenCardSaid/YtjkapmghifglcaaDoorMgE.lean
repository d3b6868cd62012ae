/- Contracts of package slices' swapRangeCmpFunc and rotateCmpFunc at changes. -/
import Derived.Test.YtjkapmghifglcaaDoorBkA
import Derived.LoopTactic
namespace Go.Proofs.YtjkapmghifglcaaDoor.Sb
set_option linter.unusedVariables false
open Go.ChangeShapes Go.WideShapes Go.ChangeAt Go.RowKit
open Ar Rg
section
variable {α : Type}
theorem set_mid (A B : List α) (x y : α) (i : Nat) (h : i = A.length) : (A ++ x :: B).set i y = A ++ y :: B := by
  subst h
  rw [List.set_append_right _ _ (Nat.le_refl _), Nat.sub_self, List.set_cons_zero]
theorem get_mid (A B : List α) (x : α) (i : Nat) (h : i = A.length) : (A ++ x :: B)[i]? = some x := by
  subst h
  rw [List.getElem?_append_right (Nat.le_refl _), Nat.sub_self]
  rfl
/-- i elements of U and V changed places -/
def sw (P U M V R : List α) (i : Nat) : List α := P ++ (V.take i ++ (U.drop i ++ (M ++ (U.take i ++ (V.drop i ++ R)))))
theorem sw_zero (P U M V R : List α) : sw P U M V R 0 = P ++ (U ++ (M ++ (V ++ R))) := by simp [sw]
theorem sw_all (P U M V R : List α) (h : U.length = V.length) : sw P U M V R U.length = P ++ (V ++ (M ++ (U ++ R))) := by
  unfold sw
  rw [List.take_of_length_le (by omega), List.drop_of_length_le (Nat.le_refl _), List.take_of_length_le (Nat.le_refl _), List.drop_of_length_le (by omega)]
  simp
theorem sw_length (P U M V R : List α) (h : U.length = V.length) (i : Nat) (hi : i ≤ U.length) : (sw P U M V R i).length = (P ++ (U ++ (M ++ (V ++ R)))).length := by
  unfold sw
  simp only [List.length_append, List.length_take, List.length_drop]
  omega
theorem sw_form (P U M V R : List α) (h : U.length = V.length) (i : Nat) (hi : i < U.length) : sw P U M V R i = (P ++ V.take i) ++ U[i] :: (U.drop (i + 1) ++ (M ++ (U.take i ++ V[i]'(by omega) :: (V.drop (i + 1) ++ R)))) := by
  unfold sw
  rw [List.drop_eq_getElem_cons hi, List.drop_eq_getElem_cons (l := V) (by omega)]
  simp only [List.append_assoc, List.cons_append]
theorem sw_form2 (P U M V R : List α) (h : U.length = V.length) (i : Nat) (hi : i < U.length) (z : α) : (P ++ V.take i) ++ z :: (U.drop (i + 1) ++ (M ++ (U.take i ++ V[i]'(by omega) :: (V.drop (i + 1) ++ R)))) = ((P ++ V.take i) ++ z :: (U.drop (i + 1) ++ (M ++ U.take i))) ++ V[i]'(by omega) :: (V.drop (i + 1) ++ R) := by simp
theorem sw_step (P U M V R : List α) (h : U.length = V.length) (i : Nat) (hi : i < U.length) :
    ((sw P U M V R i).set (P.length + i) (V[i]'(by omega))).set (P.length + U.length + M.length + i) (U[i]) = sw P U M V R (i + 1) := by
  rw [sw_form P U M V R h i hi, set_mid _ _ _ _ _ (by rw [List.length_append, List.length_take]; omega), sw_form2 P U M V R h i hi,
    set_mid _ _ _ _ _ (by simp only [List.length_append, List.length_cons, List.length_take, List.length_drop]; omega)]
  unfold sw
  rw [List.take_succ_eq_append_getElem hi, List.take_succ_eq_append_getElem (l := V) (by omega)]
  simp only [List.append_assoc, List.cons_append, List.nil_append]
theorem sw_left (P U M V R : List α) (h : U.length = V.length) (i : Nat) (hi : i < U.length) : (sw P U M V R i)[P.length + i]? = some U[i] := by
  rw [sw_form P U M V R h i hi]
  exact get_mid _ _ _ _ (by rw [List.length_append, List.length_take]; omega)
theorem sw_right (P U M V R : List α) (h : U.length = V.length) (i : Nat) (hi : i < U.length) : (sw P U M V R i)[P.length + U.length + M.length + i]? = some (V[i]'(by omega)) := by
  rw [sw_form P U M V R h i hi, sw_form2 P U M V R h i hi]
  exact get_mid _ _ _ _ (by simp only [List.length_append, List.length_cons, List.length_take, List.length_drop]; omega)
end
set_option maxRecDepth 100000 in
set_option maxHeartbeats 1000000 in
theorem swapRange_any (P U M V R : List Ch) (h : U.length = V.length) (g cap : Nat) (F : Value) (hL : (P ++ (U ++ (M ++ (V ++ R)))).length ≤ cap) (hm : (P ++ (U ++ (M ++ (V ++ R)))).length ≤ 281474976710656) (w : World) (hA : Arr enc 2 w g (P ++ (U ++ (M ++ (V ++ R))))) :
    Calls Tryd.prog 113 #[.slice (some ⟨g, 0, none⟩) (P ++ (U ++ (M ++ (V ++ R)))).length cap, .int .i64 P.length, .int .i64 (P.length + U.length + M.length : Nat), .int .i64 U.length, F] w fun e w' => e = .returned (.tuple #[]) ∧ w.grownBy w' (some g) ∧ Arr enc 2 w' g (P ++ (V ++ (M ++ (U ++ R)))) := by
  obtain ⟨N, hN⟩ : ∃ N, N = (P ++ (U ++ (M ++ (V ++ R)))).length := ⟨_, rfl⟩
  have hN1 : P.length + U.length + M.length + V.length ≤ N := by rw [hN]; simp only [List.length_append]; omega
  rw [← hN] at hL hm ⊢
  have HN := Lib.hid hN
  have HA := Lib.hid hA
  clear hA hN
  obtain ⟨a, ha⟩ : ∃ a, a = P.length := ⟨_, rfl⟩
  obtain ⟨b, hb⟩ : ∃ b, b = P.length + U.length + M.length := ⟨_, rfl⟩
  obtain ⟨n, hn⟩ : ∃ n, n = U.length := ⟨_, rfl⟩
  rw [← hb, ← ha, ← hn]
  have hbn : b + n ≤ N := by omega
  have hab : a + n ≤ b := by omega
  have HAE := Lib.hid ha
  have HBE := Lib.hid hb
  have HNE := Lib.hid hn
  have HH := Lib.hid h
  clear ha hb hn hN1 h
  go_enter Tryd.func113, Tryd.ntmps113
  go_wp2_with fail
  go_loopw [10] (fun v wr => ∃ i : Nat, i ≤ n ∧ v = .int .i64 i ∧ Arr enc 2 wr g (sw P U M V R i) ∧ w.grownBy wr (some g)) (fun v _ => n - (intOf v).toNat)
  case atStart => exact ⟨0, Nat.zero_le _, rfl, by rw [sw_zero]; exact HA.out, grown_refl _ _⟩
  case round =>
    obtain ⟨i, hi, rfl, hAr, hgr⟩ := hrel
    by_cases hlt : i < n
    · have HAr := Lib.hid hAr
      have HG := Lib.hid hgr
      clear hAr hgr
      have q1 : (0 : Int) ≤ (a : Int) + (i : Int) := by omega
      have q2 : (a : Int) + (i : Int) < (N : Int) := by omega
      have q3 : (0 : Int) ≤ (b : Int) + (i : Int) := by omega
      have q4 : (b : Int) + (i : Int) < (N : Int) := by omega
      go_wp2_with fail
      refine wp_region_held_drew (S := fun _ => True) (by kernel_rfl) trivial (fun hHeld => ?_)
      refine take_at 0 16 (.slice (some ⟨g, 0, none⟩) N cap) rfl (by rfl) (by kernel_rfl) (by kernel_rfl) (by kernel_rfl) (fun _ _ _ h => h) (Or.inl ⟨by rfl, fun w' hSw => by go_simp⟩) (by assumption) ?_
      simp only [List.setIfInBounds_toArray, List.set_cons_zero, List.set_cons_succ]
      refine take_at 1 17 (.int .i64 a) rfl (by rfl) (by kernel_rfl) (by kernel_rfl) (by kernel_rfl) (fun _ _ _ h => h) (Or.inl ⟨by rfl, fun w' hSw => by go_simp⟩) (by assumption) ?_
      simp only [List.setIfInBounds_toArray, List.set_cons_zero, List.set_cons_succ]
      refine take_at 2 18 (.int .i64 i) rfl (by rfl) (by kernel_rfl) (by kernel_rfl) (by kernel_rfl) (fun _ _ _ h => h) (Or.inl ⟨by rfl, fun w' hSw => by go_simp⟩) (by assumption) ?_
      simp only [List.setIfInBounds_toArray, List.set_cons_zero, List.set_cons_succ]
      refine take_at 3 19 (.int .i64 ((a : Int) + (i : Int))) rfl (by rfl) (by kernel_rfl) (by kernel_rfl) (by kernel_rfl) (fun _ _ _ h => h) (Or.inl ⟨by rfl, fun w' hSw => by go_simp <;> exact IntWalk.i64_in _ ⟨by omega, by omega⟩⟩) (by assumption) ?_
      simp only [List.setIfInBounds_toArray, List.set_cons_zero, List.set_cons_succ]
      refine take_at 4 20 (.slice (some ⟨g, 0, none⟩) N cap) rfl (by rfl) (by kernel_rfl) (by kernel_rfl) (by kernel_rfl) (fun _ _ _ h => h) (Or.inl ⟨by rfl, fun w' hSw => by go_simp⟩) (by assumption) ?_
      simp only [List.setIfInBounds_toArray, List.set_cons_zero, List.set_cons_succ]
      refine take_at 5 21 (.int .i64 b) rfl (by rfl) (by kernel_rfl) (by kernel_rfl) (by kernel_rfl) (fun _ _ _ h => h) (Or.inl ⟨by rfl, fun w' hSw => by go_simp⟩) (by assumption) ?_
      simp only [List.setIfInBounds_toArray, List.set_cons_zero, List.set_cons_succ]
      refine take_at 6 22 (.int .i64 i) rfl (by rfl) (by kernel_rfl) (by kernel_rfl) (by kernel_rfl) (fun _ _ _ h => h) (Or.inl ⟨by rfl, fun w' hSw => by go_simp⟩) (by assumption) ?_
      simp only [List.setIfInBounds_toArray, List.set_cons_zero, List.set_cons_succ]
      refine take_at 7 23 (.int .i64 ((b : Int) + (i : Int))) rfl (by rfl) (by kernel_rfl) (by kernel_rfl) (by kernel_rfl) (fun _ _ _ h => h) (Or.inl ⟨by rfl, fun w' hSw => by go_simp <;> exact IntWalk.i64_in _ ⟨by omega, by omega⟩⟩) (by assumption) ?_
      simp only [List.setIfInBounds_toArray, List.set_cons_zero, List.set_cons_succ]
      refine take_at 8 24 (.slice (some ⟨g, 0, none⟩) N cap) rfl (by rfl) (by kernel_rfl) (by kernel_rfl) (by kernel_rfl) (fun _ _ _ h => h) (Or.inl ⟨by rfl, fun w' hSw => by go_simp⟩) (by assumption) ?_
      simp only [List.setIfInBounds_toArray, List.set_cons_zero, List.set_cons_succ]
      refine take_at 9 25 (.int .i64 b) rfl (by rfl) (by kernel_rfl) (by kernel_rfl) (by kernel_rfl) (fun _ _ _ h => h) (Or.inl ⟨by rfl, fun w' hSw => by go_simp⟩) (by assumption) ?_
      simp only [List.setIfInBounds_toArray, List.set_cons_zero, List.set_cons_succ]
      refine take_at 10 26 (.int .i64 i) rfl (by rfl) (by kernel_rfl) (by kernel_rfl) (by kernel_rfl) (fun _ _ _ h => h) (Or.inl ⟨by rfl, fun w' hSw => by go_simp⟩) (by assumption) ?_
      simp only [List.setIfInBounds_toArray, List.set_cons_zero, List.set_cons_succ]
      refine take_at 11 27 (.int .i64 ((b : Int) + (i : Int))) rfl (by rfl) (by kernel_rfl) (by kernel_rfl) (by kernel_rfl) (fun _ _ _ h => h) (Or.inl ⟨by rfl, fun w' hSw => by go_simp <;> exact IntWalk.i64_in _ ⟨by omega, by omega⟩⟩) (by assumption) ?_
      simp only [List.setIfInBounds_toArray, List.set_cons_zero, List.set_cons_succ]
      refine take_at 12 28 (.pointer (some ⟨g, (b + i) * 2, none⟩)) rfl (by rfl) (by kernel_rfl) (by kernel_rfl) (by kernel_rfl) (fun _ _ _ h => h) (Or.inl ⟨by rfl, fun w' hSw => by go_simp⟩) (by assumption) ?_
      simp only [List.setIfInBounds_toArray, List.set_cons_zero, List.set_cons_succ]
      refine take_at 14 30 (.slice (some ⟨g, 0, none⟩) N cap) rfl (by rfl) (by kernel_rfl) (by kernel_rfl) (by kernel_rfl) (fun _ _ _ h => h) (Or.inl ⟨by rfl, fun w' hSw => by go_simp⟩) (by assumption) ?_
      simp only [List.setIfInBounds_toArray, List.set_cons_zero, List.set_cons_succ]
      refine take_at 15 31 (.int .i64 a) rfl (by rfl) (by kernel_rfl) (by kernel_rfl) (by kernel_rfl) (fun _ _ _ h => h) (Or.inl ⟨by rfl, fun w' hSw => by go_simp⟩) (by assumption) ?_
      simp only [List.setIfInBounds_toArray, List.set_cons_zero, List.set_cons_succ]
      refine take_at 16 32 (.int .i64 i) rfl (by rfl) (by kernel_rfl) (by kernel_rfl) (by kernel_rfl) (fun _ _ _ h => h) (Or.inl ⟨by rfl, fun w' hSw => by go_simp⟩) (by assumption) ?_
      simp only [List.setIfInBounds_toArray, List.set_cons_zero, List.set_cons_succ]
      refine take_at 17 33 (.int .i64 ((a : Int) + (i : Int))) rfl (by rfl) (by kernel_rfl) (by kernel_rfl) (by kernel_rfl) (fun _ _ _ h => h) (Or.inl ⟨by rfl, fun w' hSw => by go_simp <;> exact IntWalk.i64_in _ ⟨by omega, by omega⟩⟩) (by assumption) ?_
      simp only [List.setIfInBounds_toArray, List.set_cons_zero, List.set_cons_succ]
      refine take_at 18 34 (.pointer (some ⟨g, (a + i) * 2, none⟩)) rfl (by rfl) (by kernel_rfl) (by kernel_rfl) (by kernel_rfl) (fun _ _ _ h => h) (Or.inl ⟨by rfl, fun w' hSw => by go_simp⟩) (by assumption) ?_
      simp only [List.setIfInBounds_toArray, List.set_cons_zero, List.set_cons_succ]
      have HAd := Lib.hid (show Arr enc 2 wr.drew g (sw P U M V R i) from HAr.out)
      have HGd := Lib.hid (grown_trans HG.out (grown_drew wr (some g)))
      generalize wr.drew = X at *
      obtain ⟨x, hx⟩ : ∃ x, (sw P U M V R i)[a + i]? = some x := ⟨_, by rw [HAE.out]; exact sw_left P U M V R HH.out i (by rw [← HNE.out]; exact hlt)⟩
      obtain ⟨y, hy⟩ : ∃ y, (sw P U M V R i)[b + i]? = some y := ⟨_, by rw [HBE.out]; exact sw_right P U M V R HH.out i (by rw [← HNE.out]; exact hlt)⟩
      have ll : a + i < (sw P U M V R i).length := (List.getElem?_eq_some_iff.1 hx).1
      have lr : b + i < ((sw P U M V R i).set (a + i) y).length := by rw [List.length_set]; exact (List.getElem?_eq_some_iff.1 hy).1
      have H1 := Lib.hid (HAd.out.store enc_len ll y)
      have H2 := Lib.hid (show Arr enc 2 ((X.setCells g ((a + i) * 2) (enc y)).setCells g ((b + i) * 2) (enc x)) g (sw P U M V R (i + 1)) by
        have hs := sw_step P U M V R HH.out i (by rw [← HNE.out]; exact hlt)
        have ex : x = U[i]'(by rw [← HNE.out]; exact hlt) := by
          have := sw_left P U M V R HH.out i (by rw [← HNE.out]; exact hlt)
          rw [← HAE.out] at this
          exact Option.some.inj (hx.symm.trans this)
        have ey : y = V[i]'(by rw [← HH.out, ← HNE.out]; exact hlt) := by
          have := sw_right P U M V R HH.out i (by rw [← HNE.out]; exact hlt)
          rw [← HBE.out] at this
          exact Option.some.inj (hy.symm.trans this)
        rw [← hs, ← HAE.out, ← ex, ← ey]
        have hbe := HBE.out
        rw [← HAE.out] at hbe
        rw [← hbe]
        exact H1.out.store enc_len lr x)
      have G2 := Lib.hid (show w.grownBy ((X.setCells g ((a + i) * 2) (enc y)).setCells g ((b + i) * 2) (enc x)) (some g) from grown_trans (grown_trans HGd.out (grown_setCells _ _ _ _)) (grown_setCells _ _ _ _))
      have HX := Lib.hid (HAd.out.range hx)
      have HY := Lib.hid (HAd.out.range hy)
      clear hx hy
      refine wpAnyH_ready (rs := [13, 19]) (by kernel_rfl) (by simp) ?_
      refine all_at 13 29 (.agg (enc y).toArray) X rfl (by rfl) (by rfl) (load_run 41 (.tmp 28) rfl g ((b + i) * 2) rfl (enc y) _ HY.out Tryd.underlying41 rfl (by rw [enc_len]; exact infoE)) trivial (fun hHeld => ?_) ?_
      · simp only [List.setIfInBounds_toArray, List.set_cons_zero, List.set_cons_succ]
        refine wpAnyH_ready (rs := [19]) (by kernel_rfl) (by simp) ?_
        refine all_at 19 35 (.agg (enc x).toArray) X rfl (by rfl) (by rfl) (load_run 41 (.tmp 34) rfl g ((a + i) * 2) rfl (enc x) _ HX.out Tryd.underlying41 rfl (by rw [enc_len]; exact infoE)) trivial (fun hHeld => ?_) all_nil
        simp only [List.setIfInBounds_toArray, List.set_cons_zero, List.set_cons_succ]
        refine take_at 20 36 (.pointer (some ⟨g, (a + i) * 2, none⟩)) rfl (by rfl) (by kernel_rfl) (by kernel_rfl) (by kernel_rfl) (fun _ _ _ h => h) (Or.inl ⟨by rfl, fun w' hSw => by go_simp⟩) (by assumption) ?_
        simp only [List.setIfInBounds_toArray, List.set_cons_zero, List.set_cons_succ]
        refine wpAnyH_ready (rs := [21]) (by kernel_rfl) (by simp) ?_
        refine all_wp 21 _ (X.setCells g ((a + i) * 2) (enc y)) rfl (by rfl) (fun K' hk => wp_store_mid 41 (.tmp 36) (.tmp 29) rfl g ((a + i) * 2) (enc y).toArray rfl rfl (HAd.out.there enc_len ll) (by rw [List.size_toArray, enc_len]; exact infoE) (all_oneCell_toArray (enc_one _)) (by simpa only [List.toList_toArray] using hk)) trivial (fun hHeld => ?_) all_nil
        simp only [Act.put]
        refine take_at 22 37 (.pointer (some ⟨g, (b + i) * 2, none⟩)) rfl (by rfl) (by kernel_rfl) (by kernel_rfl) (by kernel_rfl) (fun _ _ _ h => h) (Or.inl ⟨by rfl, fun w' hSw => by go_simp⟩) (by assumption) ?_
        simp only [List.setIfInBounds_toArray, List.set_cons_zero, List.set_cons_succ]
        refine wpAnyH_ready (rs := [23]) (by kernel_rfl) (by simp) ?_
        refine all_wp 23 _ ((X.setCells g ((a + i) * 2) (enc y)).setCells g ((b + i) * 2) (enc x)) rfl (by rfl) (fun K' hk => wp_store_mid 41 (.tmp 37) (.tmp 35) rfl g ((b + i) * 2) (enc x).toArray rfl rfl (H1.out.there enc_len lr) (by rw [List.size_toArray, enc_len]; exact infoE) (all_oneCell_toArray (enc_one _)) (by simpa only [List.toList_toArray] using hk)) trivial (fun hHeld => ?_) all_nil
        simp only [Act.put]
        refine wpAnyH_done (by kernel_rfl) ?_ _
        generalize ((X.setCells g ((a + i) * 2) (enc y)).setCells g ((b + i) * 2) (enc x)) = Z at *
        go_wp2
        go_roundw
        case rel => exact ⟨i + 1, by omega, by go_num, H2.out, G2.out⟩
        case measure => simp [intOf]; omega
      refine all_at 19 35 (.agg (enc x).toArray) X rfl (by rfl) (by rfl) (load_run 41 (.tmp 34) rfl g ((a + i) * 2) rfl (enc x) _ HX.out Tryd.underlying41 rfl (by rw [enc_len]; exact infoE)) trivial (fun hHeld => ?_) all_nil
      simp only [List.setIfInBounds_toArray, List.set_cons_zero, List.set_cons_succ]
      refine wpAnyH_ready (rs := [13]) (by kernel_rfl) (by simp) ?_
      refine all_at 13 29 (.agg (enc y).toArray) X rfl (by rfl) (by rfl) (load_run 41 (.tmp 28) rfl g ((b + i) * 2) rfl (enc y) _ HY.out Tryd.underlying41 rfl (by rw [enc_len]; exact infoE)) trivial (fun hHeld => ?_) all_nil
      simp only [List.setIfInBounds_toArray, List.set_cons_zero, List.set_cons_succ]
      refine take_at 20 36 (.pointer (some ⟨g, (a + i) * 2, none⟩)) rfl (by rfl) (by kernel_rfl) (by kernel_rfl) (by kernel_rfl) (fun _ _ _ h => h) (Or.inl ⟨by rfl, fun w' hSw => by go_simp⟩) (by assumption) ?_
      simp only [List.setIfInBounds_toArray, List.set_cons_zero, List.set_cons_succ]
      refine wpAnyH_ready (rs := [21]) (by kernel_rfl) (by simp) ?_
      refine all_wp 21 _ (X.setCells g ((a + i) * 2) (enc y)) rfl (by rfl) (fun K' hk => wp_store_mid 41 (.tmp 36) (.tmp 29) rfl g ((a + i) * 2) (enc y).toArray rfl rfl (HAd.out.there enc_len ll) (by rw [List.size_toArray, enc_len]; exact infoE) (all_oneCell_toArray (enc_one _)) (by simpa only [List.toList_toArray] using hk)) trivial (fun hHeld => ?_) all_nil
      simp only [Act.put]
      refine take_at 22 37 (.pointer (some ⟨g, (b + i) * 2, none⟩)) rfl (by rfl) (by kernel_rfl) (by kernel_rfl) (by kernel_rfl) (fun _ _ _ h => h) (Or.inl ⟨by rfl, fun w' hSw => by go_simp⟩) (by assumption) ?_
      simp only [List.setIfInBounds_toArray, List.set_cons_zero, List.set_cons_succ]
      refine wpAnyH_ready (rs := [23]) (by kernel_rfl) (by simp) ?_
      refine all_wp 23 _ ((X.setCells g ((a + i) * 2) (enc y)).setCells g ((b + i) * 2) (enc x)) rfl (by rfl) (fun K' hk => wp_store_mid 41 (.tmp 37) (.tmp 35) rfl g ((b + i) * 2) (enc x).toArray rfl rfl (H1.out.there enc_len lr) (by rw [List.size_toArray, enc_len]; exact infoE) (all_oneCell_toArray (enc_one _)) (by simpa only [List.toList_toArray] using hk)) trivial (fun hHeld => ?_) all_nil
      simp only [Act.put]
      refine wpAnyH_done (by kernel_rfl) ?_ _
      generalize ((X.setCells g ((a + i) * 2) (enc y)).setCells g ((b + i) * 2) (enc x)) = Z at *
      go_wp2
      go_roundw
      case rel => exact ⟨i + 1, by omega, by go_num, H2.out, G2.out⟩
      case measure => simp [intOf]; omega
    · obtain rfl : i = n := by omega
      have hfin : Arr enc 2 wr g (P ++ (V ++ (M ++ (U ++ R)))) := by
        have := sw_all P U M V R HH.out
        rw [← this, ← HNE.out]; exact hAr
      have HF := Lib.hid hfin
      clear hAr hfin
      go_wp2
      exact ⟨rfl, _, results_none rfl _ _ _, rfl, hgr, HF.out⟩
end Go.Proofs.YtjkapmghifglcaaDoor.Sb
/- Contract of package slices' rotateCmpFunc at changes: two neighbouring stretches change places. -/
namespace Go.Proofs.YtjkapmghifglcaaDoor.Sb
set_option linter.unusedVariables false
open Go.ChangeShapes Go.WideShapes Go.ChangeAt Go.RowKit
open Ar Rg
/-- swapRange, its arguments as numbers -/
theorem swapRange_at (P U M V R D : List Ch) (hD : D = P ++ (U ++ (M ++ (V ++ R)))) (h : U.length = V.length) (g cap N : Nat) (hN : N = D.length) (F : Value) (hL : N ≤ cap) (hm : N ≤ 281474976710656) (w : World) (hA : Arr enc 2 w g D)
    (a b n : Int) (ha : a = (P.length : Int)) (hb : b = (P.length : Int) + U.length + M.length) (hn : n = (U.length : Int)) :
    Calls Tryd.prog 113 #[.slice (some ⟨g, 0, none⟩) N cap, .int .i64 a, .int .i64 b, .int .i64 n, F] w fun e w' => e = .returned (.tuple #[]) ∧ w.grownBy w' (some g) ∧ Arr enc 2 w' g (P ++ (V ++ (M ++ (U ++ R)))) := by
  subst hD hN
  have := swapRange_any P U M V R h g cap F hL hm w hA
  rw [ha, hn, show b = ((P.length + U.length + M.length : Nat) : Int) by omega]
  exact this
/-- what the loop of rotate keeps: the two stretches that are still to change places lie before and behind place m -/
def Rot (T : List Ch) (m i j : Nat) (N : Nat) (g : Nat) (w wr : World) : Prop := ∃ P U V R : List Ch, Arr enc 2 wr g (P ++ (U ++ (V ++ R))) ∧ (P ++ (U ++ (V ++ R))).length = N ∧ U.length = i ∧ V.length = j ∧ P.length + i = m ∧ T = P ++ (V ++ (U ++ R)) ∧ w.grownBy wr (some g)
theorem rot_start {P X Y R D : List Ch} {g N : Nat} {w : World} (hD : D = P ++ (X ++ (Y ++ R))) (hN : N = D.length) (hA : Arr enc 2 w g D) : Rot (P ++ (Y ++ (X ++ R))) (P.length + X.length) X.length Y.length N g w w := by
  subst hD
  exact ⟨P, X, Y, R, hA, hN.symm, rfl, rfl, rfl, rfl, grown_refl _ _⟩
theorem rot_more {T : List Ch} {m i j N g : Nat} {w wr : World} (cap : Nat) (F : Value) (hL : N ≤ cap) (hm : N ≤ 281474976710656) (h : Rot T m i j N g w wr) (hij : j < i) :
    Calls Tryd.prog 113 #[.slice (some ⟨g, 0, none⟩) N cap, .int .i64 ((m : Int) - i), .int .i64 m, .int .i64 j, F] wr fun e w' => e = .returned (.tuple #[]) ∧ Rot T m (i - j) j N g w w' := by
  obtain ⟨P, U, V, R, hA, hN, hU, hV, hP, hT, hg⟩ := h
  have e1 : U = U.take j ++ U.drop j := (List.take_append_drop j U).symm
  have l1 : (U.take j).length = j := by rw [List.length_take]; omega
  have l2 : (U.drop j).length = i - j := by rw [List.length_drop]; omega
  generalize U.take j = U1 at *
  generalize U.drop j = U2 at *
  subst e1
  refine (swapRange_at P U1 U2 V R _ (by simp) (by omega) g cap N hN.symm F hL hm wr hA _ _ _ ?_ ?_ ?_).mono fun e w' h => ⟨h.1, P ++ V, U2, U1, R, ?_, ?_, l2, l1, ?_, ?_, grown_trans hg h.2.1⟩
  · simp only [List.length_append] at hU; omega
  · simp only [List.length_append] at hU; omega
  · omega
  · simpa using h.2.2
  · rw [← hN]; simp only [List.length_append]; omega
  · rw [List.length_append]; omega
  · rw [hT]; simp
theorem rot_less {T : List Ch} {m i j N g : Nat} {w wr : World} (cap : Nat) (F : Value) (hL : N ≤ cap) (hm : N ≤ 281474976710656) (h : Rot T m i j N g w wr) (hij : i < j) :
    Calls Tryd.prog 113 #[.slice (some ⟨g, 0, none⟩) N cap, .int .i64 ((m : Int) - i), .int .i64 ((m : Int) + j - i), .int .i64 i, F] wr fun e w' => e = .returned (.tuple #[]) ∧ Rot T m i (j - i) N g w w' := by
  obtain ⟨P, U, V, R, hA, hN, hU, hV, hP, hT, hg⟩ := h
  have e1 : V = V.take (j - i) ++ V.drop (j - i) := (List.take_append_drop (j - i) V).symm
  have l1 : (V.take (j - i)).length = j - i := by rw [List.length_take]; omega
  have l2 : (V.drop (j - i)).length = i := by rw [List.length_drop]; omega
  generalize V.take (j - i) = V1 at *
  generalize V.drop (j - i) = V2 at *
  subst e1
  refine (swapRange_at P U V1 V2 R _ (by simp) (by omega) g cap N hN.symm F hL hm wr hA _ _ _ ?_ ?_ ?_).mono fun e w' h => ⟨h.1, P, V2, V1, U ++ R, ?_, ?_, l2, l1, hP, ?_, grown_trans hg h.2.1⟩
  · omega
  · omega
  · omega
  · exact h.2.2
  · rw [← hN]; simp only [List.length_append]; omega
  · rw [hT]; simp
theorem rot_last {T : List Ch} {m i N g : Nat} {w wr : World} (cap : Nat) (F : Value) (hL : N ≤ cap) (hm : N ≤ 281474976710656) (h : Rot T m i i N g w wr) :
    Calls Tryd.prog 113 #[.slice (some ⟨g, 0, none⟩) N cap, .int .i64 ((m : Int) - i), .int .i64 m, .int .i64 i, F] wr fun e w' => e = .returned (.tuple #[]) ∧ w.grownBy w' (some g) ∧ Arr enc 2 w' g T := by
  obtain ⟨P, U, V, R, hA, hN, hU, hV, hP, hT, hg⟩ := h
  refine (swapRange_at P U [] V R _ (by simp) (by omega) g cap N hN.symm F hL hm wr hA _ _ _ ?_ ?_ ?_).mono fun e w' h => ⟨h.1, grown_trans hg h.2.1, ?_⟩
  · omega
  · simp only [List.length_nil]; omega
  · omega
  · rw [hT]; simpa using h.2.2
theorem Rot.bounds {T : List Ch} {m i j N g : Nat} {w wr : World} (h : Rot T m i j N g w wr) : i ≤ m ∧ m + j ≤ N := by
  obtain ⟨P, U, V, R, hA, hN, hU, hV, hP, hT, hg⟩ := h
  simp only [List.length_append] at hN
  omega
set_option maxRecDepth 100000 in
set_option maxHeartbeats 1000000 in
theorem rotate_any (P X Y R D : List Ch) (hD : D = P ++ (X ++ (Y ++ R))) (hX : 0 < X.length) (hY : 0 < Y.length) (g cap N : Nat) (hN : N = D.length) (F : Value) (hL : N ≤ cap) (hm : N ≤ 281474976710656) (w : World) (hA : Arr enc 2 w g D) (a m b : Int) (ha : a = (P.length : Int)) (hmm : m = (P.length : Int) + X.length) (hb : b = (P.length : Int) + X.length + Y.length) :
    Calls Tryd.prog 106 #[.slice (some ⟨g, 0, none⟩) N cap, .int .i64 a, .int .i64 m, .int .i64 b, F] w fun e w' => e = .returned (.tuple #[]) ∧ w.grownBy w' (some g) ∧ Arr enc 2 w' g (P ++ (Y ++ (X ++ R))) := by
  have hr := rot_start hD hN hA
  have hlen : P.length + X.length + Y.length ≤ N := by rw [hN, hD]; simp only [List.length_append]; omega
  generalize P ++ (Y ++ (X ++ R)) = T at *
  obtain ⟨M, hM⟩ : ∃ M : Nat, M = P.length + X.length := ⟨_, rfl⟩
  obtain ⟨A0, hA0⟩ : ∃ M : Nat, M = P.length := ⟨_, rfl⟩
  obtain ⟨xl, hxl⟩ : ∃ n, n = X.length := ⟨_, rfl⟩
  obtain ⟨yl, hyl⟩ : ∃ n, n = Y.length := ⟨_, rfl⟩
  rw [← hM, ← hxl, ← hyl] at hr
  rw [← hxl] at hmm hb hX hlen hM
  rw [← hyl] at hb hY hlen
  rw [← hA0] at ha hmm hb hlen hM
  have HR := Lib.hid hr
  have em : m = (M : Int) := by omega
  have eb : b = (M : Int) + yl := by omega
  have b1 : M + yl ≤ N := by omega
  have b2 : A0 + xl = M := by omega
  clear hA hD hN hmm hb hxl hyl hA0 hlen hr hM
  subst ha em eb
  go_enter Tryd.func106, Tryd.ntmps106
  go_wp2_with fail
  go_loopw [10, 11] (fun v u wr => ∃ i j : Nat, 0 < i ∧ 0 < j ∧ v = .int .i64 i ∧ u = .int .i64 j ∧ Hid (Rot T M i j N g w wr)) (fun v u _ => (intOf v).toNat + (intOf u).toNat)
  case atStart => exact ⟨xl, yl, hX, hY, by go_num, by go_num, HR.out⟩
  case round =>
    clear HR
    obtain ⟨i, j, hi, hj, rfl, rfl, hrot⟩ := hrel
    have hbd := (Hid.out hrot).bounds
    obtain ⟨hb1, hb2⟩ := hbd
    by_cases hij : i = j
    · subst hij
      have hne : ((i : Int) != (i : Int)) = false := by simp
      go_wp2_with (go_at_call 113; refine (rot_last cap F hL hm (Hid.out hrot)).mono ?_; rintro e w' ⟨rfl, hgw, hAw⟩)
      have HF := Lib.hid hAw
      clear hAw
      go_wp2
      exact ⟨rfl, _, results_none rfl _ _ _, rfl, hgw, HF.out⟩
    · have hne : ((i : Int) != (j : Int)) = true := by rw [bne_iff_ne]; omega
      by_cases hlt : j < i
      · go_wp2_with (go_at_call 113; refine (rot_more cap F hL hm (Hid.out hrot) hlt).mono ?_; rintro e w' ⟨rfl, hrw⟩; have HW := Lib.hid hrw; clear hrw)
        exact ⟨⟨i - j, j, by omega, hj, by go_num, rfl, HW.out⟩, by simp [intOf]; omega⟩
      · have hlt2 : i < j := by omega
        go_wp2_with (go_at_call 113; refine (rot_less cap F hL hm (Hid.out hrot) hlt2).mono ?_; rintro e w' ⟨rfl, hrw⟩; have HW := Lib.hid hrw; clear hrw)
        exact ⟨⟨i, j - i, hi, by omega, rfl, by go_num, HW.out⟩, by simp [intOf]; omega⟩
end Go.Proofs.YtjkapmghifglcaaDoor.Sb
/- Contract of package slices' insertionSortCmpFunc at changes: a stretch of the list is put into order, those of one key staying as they stood. -/
namespace Go.Proofs.YtjkapmghifglcaaDoor.Sb
set_option linter.unusedVariables false
open Go.ChangeShapes Go.WideShapes Go.ChangeAt Go.RowKit
open Ar Rg St
abbrev lt := nl
theorem O : Ord lt := nlOrd
def InsO (P S R : List Ch) (q g : Nat) (w wr : World) : Prop := ∃ A : List Ch, Arr enc 2 wr g (P ++ (A ++ (S.drop q ++ R))) ∧ A.length = q ∧ Srt key lt A ∧ Sm key (S.take q) A ∧ w.grownBy wr (some g)
def InsI (P S R : List Ch) (q j g : Nat) (w wr : World) : Prop := ∃ (A1 A2 : List Ch) (x : Ch), Arr enc 2 wr g (P ++ (A1 ++ x :: (A2 ++ (S.drop (q + 1) ++ R)))) ∧ P.length + A1.length = j ∧ A1.length + A2.length = q ∧ Srt key lt (A1 ++ A2) ∧ (∀ y ∈ A2, lt (key x) (key y) = true) ∧ Sm key (S.take (q + 1)) (A1 ++ x :: A2) ∧ w.grownBy wr (some g)
theorem ins_in {P S R : List Ch} {q g : Nat} {w wr : World} (h : InsO P S R q g w wr) (hq : q < S.length) : InsI P S R q (P.length + q) g w wr := by
  obtain ⟨A, hA, hl, hs, hm, hg⟩ := h
  refine ⟨A, [], S[q], ?_, by omega, by simpa using hl, by simpa using hs, by simp, ?_, hg⟩
  · rw [List.drop_eq_getElem_cons hq] at hA
    simpa only [List.nil_append, List.cons_append] using hA
  · rw [List.take_succ_eq_append_getElem hq]
    exact Sm.append hm (Sm.refl _)
theorem ins_end {P S R : List Ch} {q j g : Nat} {w wr : World} (h : InsI P S R q j g w wr) (hj : j = P.length) : InsO P S R (q + 1) g w wr := by
  obtain ⟨A1, A2, x, hA, h1, h2, hs, hx, hm, hg⟩ := h
  have hn : A1 = [] := List.eq_nil_of_length_eq_zero (by omega)
  subst hn
  refine ⟨x :: A2, by simpa using hA, by simp at h2; simp [h2], ?_, by simpa using hm, hg⟩
  have := Srt.put (key := key) (lt := lt) (a := []) (b := A2) (x := x) hs (by simp) (fun y hy => O.asymm _ _ (hx y hy))
  simpa using this
theorem InsO.drewN {P S R : List Ch} {q g : Nat} {w wr : World} (h : InsO P S R q g w wr) (n : Nat) : InsO P S R q g w (wr.drewN n) := by
  obtain ⟨A, hA, hl, hs, hm, hg⟩ := h
  exact ⟨A, hA.block rfl, hl, hs, hm, ⟨hg.os, hg.tape, hg.output, hg.size, hg.block⟩⟩
theorem cmp_at (x y : Ch) (c : Int) (hc : cf x y = c) (w : World) : Calls Tryd.prog 56 #[.agg (enc x).toArray, .agg (enc y).toArray] w fun e w' => e = .returned (.int .i64 c) ∧ w.grownBy w' none := by
  subst hc
  exact cmp_any x y w
theorem ins_look {P S R : List Ch} {q k g : Nat} {w wr : World} (h : InsI P S R q (k + 1) g w wr) (hk : P.length ≤ k) (hq : q + 1 ≤ S.length) :
    ∃ (L : List Ch) (x y : Ch), Arr enc 2 wr g L ∧ L.length = (P ++ (S ++ R)).length ∧ L[k + 1]? = some x ∧ L[k]? = some y ∧ w.grownBy wr (some g) ∧
      (lt (key x) (key y) = false → ∀ wr', Arr enc 2 wr' g L → w.grownBy wr' (some g) → InsO P S R (q + 1) g w wr') ∧
      (lt (key x) (key y) = true → ∀ wr', Arr enc 2 wr' g ((L.set (k + 1) y).set k x) → w.grownBy wr' (some g) → InsI P S R q k g w wr') := by
  obtain ⟨A1, A2, x, hA, h1, h2, hs, hx, hm, hg⟩ := h
  obtain ⟨B, y, rfl⟩ : ∃ B y, A1 = B ++ [y] := by
    rcases List.eq_nil_or_concat A1 with e | ⟨B, y, e⟩
    · subst e; simp at h1; omega
    · exact ⟨B, y, by simpa using e⟩
  have hlB : (P ++ B).length = k := by simp only [List.length_append, List.length_cons, List.length_nil] at h1 ⊢; omega
  have e1 : P ++ (B ++ [y] ++ x :: (A2 ++ (S.drop (q + 1) ++ R))) = (P ++ B) ++ y :: (x :: (A2 ++ (S.drop (q + 1) ++ R))) := by simp
  have e2 : (P ++ B) ++ y :: (x :: (A2 ++ (S.drop (q + 1) ++ R))) = ((P ++ B) ++ [y]) ++ x :: (A2 ++ (S.drop (q + 1) ++ R)) := by simp
  rw [e1] at hA
  refine ⟨_, x, y, hA, ?_, ?_, get_mid _ _ _ _ hlB.symm, hg, fun hlt wr' hA' hg' => ?_, fun hlt wr' hA' hg' => ?_⟩
  · simp only [List.length_append, List.length_cons, List.length_drop, List.length_nil] at h1 h2 ⊢; omega
  · rw [e2]
    exact get_mid _ _ _ _ (by rw [List.length_append, hlB]; rfl)
  · refine ⟨(B ++ [y]) ++ x :: A2, ?_, ?_, ?_, hm, hg'⟩
    · have e : P ++ ((B ++ [y]) ++ x :: A2 ++ (S.drop (q + 1) ++ R)) = (P ++ B) ++ y :: (x :: (A2 ++ (S.drop (q + 1) ++ R))) := by simp
      rw [e]; exact hA'
    · simp only [List.length_append, List.length_cons, List.length_nil] at h2 ⊢; omega
    · exact Srt.put hs (Srt.snoc_le O (Srt.append.1 hs).1 hlt) (fun z hz => O.asymm _ _ (hx z hz))
  · rw [e2, set_mid _ _ _ _ _ (by rw [List.length_append, hlB]; rfl)] at hA'
    have e3 : ((P ++ B) ++ [y]) ++ y :: (A2 ++ (S.drop (q + 1) ++ R)) = (P ++ B) ++ y :: (y :: (A2 ++ (S.drop (q + 1) ++ R))) := by simp
    rw [e3, set_mid _ _ _ _ _ hlB.symm] at hA'
    refine ⟨B, y :: A2, x, ?_, ?_, ?_, ?_, ?_, ?_, hg'⟩
    · have e : P ++ (B ++ x :: (y :: A2 ++ (S.drop (q + 1) ++ R))) = (P ++ B) ++ x :: (y :: (A2 ++ (S.drop (q + 1) ++ R))) := by simp
      rw [e]; exact hA'
    · rw [List.length_append] at hlB; omega
    · simp only [List.length_append, List.length_cons, List.length_nil] at h2 ⊢; omega
    · have e : B ++ y :: A2 = B ++ [y] ++ A2 := by simp
      rw [e]; exact hs
    · intro z hz
      rcases List.mem_cons.1 hz with rfl | hz
      · exact hlt
      · exact hx z hz
    · refine hm.trans ?_
      have e : B ++ [y] ++ x :: A2 = B ++ ([y] ++ [x]) ++ A2 := by simp
      have e' : B ++ x :: y :: A2 = B ++ ([x] ++ [y]) ++ A2 := by simp
      rw [e, e']
      refine Sm.append (Sm.append (Sm.refl _) (Sm.swap fun a ha b hb => ?_)) (Sm.refl _)
      simp at ha hb
      subst ha hb
      exact (O.ne hlt).symm
set_option maxRecDepth 100000 in
set_option maxHeartbeats 2000000 in
theorem insertion_any (P S R D : List Ch) (hD : D = P ++ (S ++ R)) (hS : 0 < S.length) (g cap N : Nat) (hN : N = D.length) (hL : N ≤ cap) (hm : N ≤ 281474976710656) (w : World) (hA : Arr enc 2 w g D) (a b : Int) (ha : a = (P.length : Int)) (hb : b = (P.length : Int) + S.length) :
    Calls Tryd.prog 100 #[.slice (some ⟨g, 0, none⟩) N cap, .int .i64 a, .int .i64 b, CMP] w fun e w' => e = .returned (.tuple #[]) ∧ ∃ S', Arr enc 2 w' g (P ++ (S' ++ R)) ∧ S'.length = S.length ∧ Srt key lt S' ∧ Sm key S S' ∧ w.grownBy w' (some g) := by
  have h1 : InsO P S R 1 g w w := by
    refine ⟨S.take 1, ?_, by rw [List.length_take]; omega, Srt.short (by rw [List.length_take]; omega), Sm.refl _, grown_refl _ _⟩
    have e : S.take 1 ++ (S.drop 1 ++ R) = S ++ R := by rw [← List.append_assoc, List.take_append_drop]
    rw [e, ← hD]; exact hA
  have H1 := Lib.hid h1
  have hNN : N = (P ++ (S ++ R)).length := by rw [hN, hD]
  have HN := Lib.hid hNN
  have hlen : P.length + S.length ≤ N := by rw [hNN]; simp only [List.length_append]; omega
  obtain ⟨A0, hA0⟩ : ∃ M : Nat, M = P.length := ⟨_, rfl⟩
  obtain ⟨sl, hsl⟩ : ∃ n, n = S.length := ⟨_, rfl⟩
  rw [← hA0] at ha hb hlen
  rw [← hsl] at hb hlen hS
  have HA0 := Lib.hid hA0
  have HSL := Lib.hid hsl
  clear hA hD hN h1 hNN hA0 hsl
  subst ha hb
  unfold CMP
  go_enter Tryd.func100, Tryd.ntmps100
  go_wp2_with fail
  go_loopw [8] (fun v wr => ∃ q : Nat, 1 ≤ q ∧ q ≤ sl ∧ v = .int .i64 ((A0 : Int) + q) ∧ Hid (InsO P S R q g w wr)) (fun v _ => A0 + sl - (intOf v).toNat)
  case atStart => exact ⟨1, Nat.le_refl _, hS, by go_num, H1.out⟩
  case round =>
    clear H1
    obtain ⟨q, hq1, hq2, rfl, ho⟩ := hrel
    by_cases hlt : q < sl
    · go_wp2_with fail
      go_loopw [9] (fun v wi => ∃ j : Nat, A0 ≤ j ∧ j ≤ A0 + q ∧ v = .int .i64 j ∧ Hid (InsI P S R q j g w wi)) (fun v _ => (intOf v).toNat)
      case atStart => exact ⟨A0 + q, by omega, Nat.le_refl _, by go_num, by have := ins_in (Hid.out ho) (by rw [← HSL.out]; exact hlt); rw [← HA0.out] at this; exact this⟩
      case round =>
        obtain ⟨j, hj1, hj2, rfl, hi⟩ := hrel
        by_cases hj : j = A0
        · subst hj
          have hgo : decide ((j : Int) < (j : Int)) = false := by simp
          have hou := Lib.hid (ins_end (Hid.out hi) HA0.out)
          go_wp2_with fail
          go_quiet (fail)
          have HOU := Lib.hid (hou.out.drewN nq)
          clear hou hi
          generalize World.drewN _ _ = W1 at *
          go_wp2
          exact ⟨⟨q + 1, by omega, by omega, by go_num, HOU.out⟩, by simp [intOf]; omega⟩
        · obtain ⟨k, rfl⟩ : ∃ k, j = k + 1 := ⟨j - 1, by omega⟩
          obtain ⟨L, x, y, hAL, hLl, hx, hy, hgr, hno, hyes⟩ := ins_look (Hid.out hi) (by rw [← HA0.out]; omega) (by rw [← HSL.out]; omega)
          rw [← HN.out] at hLl
          obtain ⟨c, hcf⟩ : ∃ c, cf x y = c := ⟨_, rfl⟩
          have hcl := cf_lt x y
          rw [hcf] at hcl
          have HI := hi
          have q1 : (0 : Int) ≤ (k : Int) + 1 := by omega
          have q2 : (k : Int) + 1 < (N : Int) := by have := (List.getElem?_eq_some_iff.1 hx).1; omega
          have q3 : (0 : Int) ≤ (k : Int) := by omega
          have q4 : (k : Int) < (N : Int) := by omega
          have q5 : (A0 : Int) < (k : Int) + 1 := by omega
          by_cases hlt2 : lt (key x) (key y) = true
          · have hc0 : c < 0 := hcl.2 hlt2
            clear hcl
            go_wp2_with fail
            refine wp_region_held_drew (S := fun w' => Arr enc 2 w' g L ∧ w.grownBy w' (some g)) (by kernel_rfl) ⟨hAL.drew, grown_trans hgr (grown_drew _ _)⟩ (fun hHeld => ?_)
            refine take_at 0 18 (.int .i64 ((k : Int) + 1)) rfl (by rfl) (by kernel_rfl) (by kernel_rfl) (by kernel_rfl) (fun _ _ _ h => h) (Or.inl ⟨by rfl, fun w' hSw => by go_simp⟩) (by assumption) ?_
            simp only [List.setIfInBounds_toArray, List.set_cons_zero, List.set_cons_succ]
            refine take_at 1 19 (.int .i64 A0) rfl (by rfl) (by kernel_rfl) (by kernel_rfl) (by kernel_rfl) (fun _ _ _ h => h) (Or.inl ⟨by rfl, fun w' hSw => by go_simp⟩) (by assumption) ?_
            simp only [List.setIfInBounds_toArray, List.set_cons_zero, List.set_cons_succ]
            refine take_at 2 20 (.bool true) rfl (by rfl) (by kernel_rfl) (by kernel_rfl) (by kernel_rfl) (fun _ _ _ h => h) (Or.inl ⟨by rfl, fun w' hSw => by go_simp⟩) (by assumption) ?_
            simp only [List.setIfInBounds_toArray, List.set_cons_zero, List.set_cons_succ]
            refine take_at 3 21 (.bool true) rfl (by rfl) (by kernel_rfl) (by kernel_rfl) (by kernel_rfl) (fun _ _ _ h => h) (Or.inl ⟨by rfl, fun w' hSw => by go_simp⟩) (by assumption) ?_
            simp only [List.setIfInBounds_toArray, List.set_cons_zero, List.set_cons_succ]
            refine take_at 4 22 (.func (.func 56) #[] #[]) rfl (by rfl) (by kernel_rfl) (by kernel_rfl) (by kernel_rfl) (fun _ _ _ h => h) (Or.inl ⟨by rfl, fun w' hSw => by go_simp⟩) (by assumption) ?_
            simp only [List.setIfInBounds_toArray, List.set_cons_zero, List.set_cons_succ]
            refine take_at 5 23 (.slice (some ⟨g, 0, none⟩) N cap) rfl (by rfl) (by kernel_rfl) (by kernel_rfl) (by kernel_rfl) (fun _ _ _ h => h) (Or.inl ⟨by rfl, fun w' hSw => by go_simp⟩) (by assumption) ?_
            simp only [List.setIfInBounds_toArray, List.set_cons_zero, List.set_cons_succ]
            refine take_at 6 24 (.int .i64 ((k : Int) + 1)) rfl (by rfl) (by kernel_rfl) (by kernel_rfl) (by kernel_rfl) (fun _ _ _ h => h) (Or.inl ⟨by rfl, fun w' hSw => by go_simp⟩) (by assumption) ?_
            simp only [List.setIfInBounds_toArray, List.set_cons_zero, List.set_cons_succ]
            refine take_at 7 25 (.pointer (some ⟨g, (k + 1) * 2, none⟩)) rfl (by rfl) (by kernel_rfl) (by kernel_rfl) (by kernel_rfl) (fun _ _ _ h => h) (Or.inl ⟨by rfl, fun w' hSw => by go_simp⟩) (by assumption) ?_
            simp only [List.setIfInBounds_toArray, List.set_cons_zero, List.set_cons_succ]
            refine take_at 8 26 (.agg (enc x).toArray) rfl (by rfl) (by kernel_rfl) (by kernel_rfl) (by kernel_rfl) (fun _ _ _ h => h) (yieldsIf_load_mid (by rfl) _ _ rfl _ _ rfl (enc x) _ (fun w' hSw => hSw.1.range hx) Tryd.underlying41 rfl (by rw [enc_len]; exact infoE)) (by assumption) ?_
            simp only [List.setIfInBounds_toArray, List.set_cons_zero, List.set_cons_succ]
            refine take_at 9 27 (.slice (some ⟨g, 0, none⟩) N cap) rfl (by rfl) (by kernel_rfl) (by kernel_rfl) (by kernel_rfl) (fun _ _ _ h => h) (Or.inl ⟨by rfl, fun w' hSw => by go_simp⟩) (by assumption) ?_
            simp only [List.setIfInBounds_toArray, List.set_cons_zero, List.set_cons_succ]
            refine take_at 10 28 (.int .i64 ((k : Int) + 1)) rfl (by rfl) (by kernel_rfl) (by kernel_rfl) (by kernel_rfl) (fun _ _ _ h => h) (Or.inl ⟨by rfl, fun w' hSw => by go_simp⟩) (by assumption) ?_
            simp only [List.setIfInBounds_toArray, List.set_cons_zero, List.set_cons_succ]
            refine take_at 11 29 (.int .i64 k) rfl (by rfl) (by kernel_rfl) (by kernel_rfl) (by kernel_rfl) (fun _ _ _ h => h) (Or.inl ⟨by rfl, fun w' hSw => by go_simp <;> exact IntWalk.i64_in _ ⟨by omega, by omega⟩⟩) (by assumption) ?_
            simp only [List.setIfInBounds_toArray, List.set_cons_zero, List.set_cons_succ]
            refine take_at 12 30 (.pointer (some ⟨g, k * 2, none⟩)) rfl (by rfl) (by kernel_rfl) (by kernel_rfl) (by kernel_rfl) (fun _ _ _ h => h) (Or.inl ⟨by rfl, fun w' hSw => by go_simp⟩) (by assumption) ?_
            simp only [List.setIfInBounds_toArray, List.set_cons_zero, List.set_cons_succ]
            refine take_at 13 31 (.agg (enc y).toArray) rfl (by rfl) (by kernel_rfl) (by kernel_rfl) (by kernel_rfl) (fun _ _ _ h => h) (yieldsIf_load_mid (by rfl) _ _ rfl _ _ rfl (enc y) _ (fun w' hSw => hSw.1.range hy) Tryd.underlying41 rfl (by rw [enc_len]; exact infoE)) (by assumption) ?_
            simp only [List.setIfInBounds_toArray, List.set_cons_zero, List.set_cons_succ]
            refine wpAnyH_ready (rs := [14]) (by kernel_rfl) (by simp) ?_
            refine AllReadyH.cons rfl (fun K hK => ?_) AllReadyH.nil
            go_simp
            go_wp2_with (go_at_call 56; refine (cmp_at x y c hcf _).mono ?_; rintro e w5 ⟨rfl, hg5⟩)
            refine hK.out _ _ ⟨hHeld.1.grown0 enc_len (by omega) hg5, grown_trans hHeld.2 (grown_weak hg5 _)⟩ (fun hHeld => ?_)
            clear hK K
            refine take_at 15 33 (.bool true) rfl (by rfl) (by kernel_rfl) (by kernel_rfl) (by kernel_rfl) (fun _ _ _ h => h) (Or.inl ⟨by rfl, fun w' hSw => by go_simp⟩) (by assumption) ?_
            simp only [List.setIfInBounds_toArray, List.set_cons_zero, List.set_cons_succ]
            refine take_at 16 34 (.bool true) rfl (by rfl) (by kernel_rfl) (by kernel_rfl) (by kernel_rfl) (fun _ _ _ h => h) (Or.inl ⟨by rfl, fun w' hSw => by go_simp⟩) (by assumption) ?_
            simp only [List.setIfInBounds_toArray, List.set_cons_zero, List.set_cons_succ]
            refine wpAnyH_done (by kernel_rfl) ?_ _
            obtain ⟨hHeld2, hHeld3⟩ := hHeld
            have HA1 := Lib.hid hHeld2.drew
            have HG1 := Lib.hid (grown_trans hHeld3 (grown_drew _ (some g)))
            have HYES := Lib.hid (hyes hlt2)
            clear hHeld2 hHeld3 hAL hgr hno hyes hcf
            go_wp2_with fail
            refine wp_region_held_drew (S := fun _ => True) (by kernel_rfl) trivial (fun hHeld => ?_)
            refine take_at 0 37 (.slice (some ⟨g, 0, none⟩) N cap) rfl (by rfl) (by kernel_rfl) (by kernel_rfl) (by kernel_rfl) (fun _ _ _ h => h) (Or.inl ⟨by rfl, fun w' hSw => by go_simp⟩) (by assumption) ?_
            simp only [List.setIfInBounds_toArray, List.set_cons_zero, List.set_cons_succ]
            refine take_at 1 38 (.int .i64 ((k : Int) + 1)) rfl (by rfl) (by kernel_rfl) (by kernel_rfl) (by kernel_rfl) (fun _ _ _ h => h) (Or.inl ⟨by rfl, fun w' hSw => by go_simp⟩) (by assumption) ?_
            simp only [List.setIfInBounds_toArray, List.set_cons_zero, List.set_cons_succ]
            refine take_at 2 39 (.slice (some ⟨g, 0, none⟩) N cap) rfl (by rfl) (by kernel_rfl) (by kernel_rfl) (by kernel_rfl) (fun _ _ _ h => h) (Or.inl ⟨by rfl, fun w' hSw => by go_simp⟩) (by assumption) ?_
            simp only [List.setIfInBounds_toArray, List.set_cons_zero, List.set_cons_succ]
            refine take_at 3 40 (.int .i64 ((k : Int) + 1)) rfl (by rfl) (by kernel_rfl) (by kernel_rfl) (by kernel_rfl) (fun _ _ _ h => h) (Or.inl ⟨by rfl, fun w' hSw => by go_simp⟩) (by assumption) ?_
            simp only [List.setIfInBounds_toArray, List.set_cons_zero, List.set_cons_succ]
            refine take_at 4 41 (.int .i64 k) rfl (by rfl) (by kernel_rfl) (by kernel_rfl) (by kernel_rfl) (fun _ _ _ h => h) (Or.inl ⟨by rfl, fun w' hSw => by go_simp <;> exact IntWalk.i64_in _ ⟨by omega, by omega⟩⟩) (by assumption) ?_
            simp only [List.setIfInBounds_toArray, List.set_cons_zero, List.set_cons_succ]
            refine take_at 5 42 (.slice (some ⟨g, 0, none⟩) N cap) rfl (by rfl) (by kernel_rfl) (by kernel_rfl) (by kernel_rfl) (fun _ _ _ h => h) (Or.inl ⟨by rfl, fun w' hSw => by go_simp⟩) (by assumption) ?_
            simp only [List.setIfInBounds_toArray, List.set_cons_zero, List.set_cons_succ]
            refine take_at 6 43 (.int .i64 ((k : Int) + 1)) rfl (by rfl) (by kernel_rfl) (by kernel_rfl) (by kernel_rfl) (fun _ _ _ h => h) (Or.inl ⟨by rfl, fun w' hSw => by go_simp⟩) (by assumption) ?_
            simp only [List.setIfInBounds_toArray, List.set_cons_zero, List.set_cons_succ]
            refine take_at 7 44 (.int .i64 k) rfl (by rfl) (by kernel_rfl) (by kernel_rfl) (by kernel_rfl) (fun _ _ _ h => h) (Or.inl ⟨by rfl, fun w' hSw => by go_simp <;> exact IntWalk.i64_in _ ⟨by omega, by omega⟩⟩) (by assumption) ?_
            simp only [List.setIfInBounds_toArray, List.set_cons_zero, List.set_cons_succ]
            refine take_at 8 45 (.pointer (some ⟨g, k * 2, none⟩)) rfl (by rfl) (by kernel_rfl) (by kernel_rfl) (by kernel_rfl) (fun _ _ _ h => h) (Or.inl ⟨by rfl, fun w' hSw => by go_simp⟩) (by assumption) ?_
            simp only [List.setIfInBounds_toArray, List.set_cons_zero, List.set_cons_succ]
            refine take_at 10 47 (.slice (some ⟨g, 0, none⟩) N cap) rfl (by rfl) (by kernel_rfl) (by kernel_rfl) (by kernel_rfl) (fun _ _ _ h => h) (Or.inl ⟨by rfl, fun w' hSw => by go_simp⟩) (by assumption) ?_
            simp only [List.setIfInBounds_toArray, List.set_cons_zero, List.set_cons_succ]
            refine take_at 11 48 (.int .i64 ((k : Int) + 1)) rfl (by rfl) (by kernel_rfl) (by kernel_rfl) (by kernel_rfl) (fun _ _ _ h => h) (Or.inl ⟨by rfl, fun w' hSw => by go_simp⟩) (by assumption) ?_
            simp only [List.setIfInBounds_toArray, List.set_cons_zero, List.set_cons_succ]
            refine take_at 12 49 (.pointer (some ⟨g, (k + 1) * 2, none⟩)) rfl (by rfl) (by kernel_rfl) (by kernel_rfl) (by kernel_rfl) (fun _ _ _ h => h) (Or.inl ⟨by rfl, fun w' hSw => by go_simp⟩) (by assumption) ?_
            simp only [List.setIfInBounds_toArray, List.set_cons_zero, List.set_cons_succ]
            have HAd := HA1
            have HGd := HG1
            generalize w5.drew = X at *
            have ll : k + 1 < L.length := (List.getElem?_eq_some_iff.1 hx).1
            have lr : k < (L.set (k + 1) y).length := by rw [List.length_set]; omega
            have H1 := Lib.hid (HAd.out.store enc_len ll y)
            have H2 := Lib.hid (H1.out.store enc_len lr x)
            have G2 := Lib.hid (grown_trans (grown_trans HGd.out (grown_setCells X g ((k + 1) * 2) (enc y))) (grown_setCells _ g (k * 2) (enc x)))
            have HX := Lib.hid (HAd.out.range hx)
            have HY := Lib.hid (HAd.out.range hy)
            refine wpAnyH_ready (rs := [9, 13]) (by kernel_rfl) (by simp) ?_
            refine all_at 9 46 (.agg (enc y).toArray) X rfl (by rfl) (by rfl) (load_run 41 (.tmp 45) rfl g (k * 2) rfl (enc y) _ HY.out Tryd.underlying41 rfl (by rw [enc_len]; exact infoE)) trivial (fun hHeld => ?_) ?_
            · simp only [List.setIfInBounds_toArray, List.set_cons_zero, List.set_cons_succ]
              refine wpAnyH_ready (rs := [13]) (by kernel_rfl) (by simp) ?_
              refine all_at 13 50 (.agg (enc x).toArray) X rfl (by rfl) (by rfl) (load_run 41 (.tmp 49) rfl g ((k + 1) * 2) rfl (enc x) _ HX.out Tryd.underlying41 rfl (by rw [enc_len]; exact infoE)) trivial (fun hHeld => ?_) all_nil
              simp only [List.setIfInBounds_toArray, List.set_cons_zero, List.set_cons_succ]
              refine take_at 14 51 (.pointer (some ⟨g, (k + 1) * 2, none⟩)) rfl (by rfl) (by kernel_rfl) (by kernel_rfl) (by kernel_rfl) (fun _ _ _ h => h) (Or.inl ⟨by rfl, fun w' hSw => by go_simp⟩) (by assumption) ?_
              simp only [List.setIfInBounds_toArray, List.set_cons_zero, List.set_cons_succ]
              refine wpAnyH_ready (rs := [15]) (by kernel_rfl) (by simp) ?_
              refine all_wp 15 _ (X.setCells g ((k + 1) * 2) (enc y)) rfl (by rfl) (fun K' hk => wp_store_mid 41 (.tmp 51) (.tmp 46) rfl g ((k + 1) * 2) (enc y).toArray rfl rfl (HAd.out.there enc_len ll) (by rw [List.size_toArray, enc_len]; exact infoE) (all_oneCell_toArray (enc_one _)) (by simpa only [List.toList_toArray] using hk)) trivial (fun hHeld => ?_) all_nil
              simp only [Act.put]
              refine take_at 16 52 (.pointer (some ⟨g, k * 2, none⟩)) rfl (by rfl) (by kernel_rfl) (by kernel_rfl) (by kernel_rfl) (fun _ _ _ h => h) (Or.inl ⟨by rfl, fun w' hSw => by go_simp⟩) (by assumption) ?_
              simp only [List.setIfInBounds_toArray, List.set_cons_zero, List.set_cons_succ]
              refine wpAnyH_ready (rs := [17]) (by kernel_rfl) (by simp) ?_
              refine all_wp 17 _ ((X.setCells g ((k + 1) * 2) (enc y)).setCells g (k * 2) (enc x)) rfl (by rfl) (fun K' hk => wp_store_mid 41 (.tmp 52) (.tmp 50) rfl g (k * 2) (enc x).toArray rfl rfl (H1.out.there enc_len lr) (by rw [List.size_toArray, enc_len]; exact infoE) (all_oneCell_toArray (enc_one _)) (by simpa only [List.toList_toArray] using hk)) trivial (fun hHeld => ?_) all_nil
              simp only [Act.put]
              refine wpAnyH_done (by kernel_rfl) ?_ _
              have HIN := Lib.hid (HYES.out _ H2.out G2.out)
              generalize ((X.setCells g ((k + 1) * 2) (enc y)).setCells g (k * 2) (enc x)) = Z at *
              clear H1 H2 G2 HA1 HG1 HAd HGd HX HY
              go_wp2
              exact ⟨⟨k, by omega, by omega, by go_num, HIN.out⟩, by simp [intOf] <;> omega⟩
            refine all_at 13 50 (.agg (enc x).toArray) X rfl (by rfl) (by rfl) (load_run 41 (.tmp 49) rfl g ((k + 1) * 2) rfl (enc x) _ HX.out Tryd.underlying41 rfl (by rw [enc_len]; exact infoE)) trivial (fun hHeld => ?_) all_nil
            simp only [List.setIfInBounds_toArray, List.set_cons_zero, List.set_cons_succ]
            refine wpAnyH_ready (rs := [9]) (by kernel_rfl) (by simp) ?_
            refine all_at 9 46 (.agg (enc y).toArray) X rfl (by rfl) (by rfl) (load_run 41 (.tmp 45) rfl g (k * 2) rfl (enc y) _ HY.out Tryd.underlying41 rfl (by rw [enc_len]; exact infoE)) trivial (fun hHeld => ?_) all_nil
            simp only [List.setIfInBounds_toArray, List.set_cons_zero, List.set_cons_succ]
            refine take_at 14 51 (.pointer (some ⟨g, (k + 1) * 2, none⟩)) rfl (by rfl) (by kernel_rfl) (by kernel_rfl) (by kernel_rfl) (fun _ _ _ h => h) (Or.inl ⟨by rfl, fun w' hSw => by go_simp⟩) (by assumption) ?_
            simp only [List.setIfInBounds_toArray, List.set_cons_zero, List.set_cons_succ]
            refine wpAnyH_ready (rs := [15]) (by kernel_rfl) (by simp) ?_
            refine all_wp 15 _ (X.setCells g ((k + 1) * 2) (enc y)) rfl (by rfl) (fun K' hk => wp_store_mid 41 (.tmp 51) (.tmp 46) rfl g ((k + 1) * 2) (enc y).toArray rfl rfl (HAd.out.there enc_len ll) (by rw [List.size_toArray, enc_len]; exact infoE) (all_oneCell_toArray (enc_one _)) (by simpa only [List.toList_toArray] using hk)) trivial (fun hHeld => ?_) all_nil
            simp only [Act.put]
            refine take_at 16 52 (.pointer (some ⟨g, k * 2, none⟩)) rfl (by rfl) (by kernel_rfl) (by kernel_rfl) (by kernel_rfl) (fun _ _ _ h => h) (Or.inl ⟨by rfl, fun w' hSw => by go_simp⟩) (by assumption) ?_
            simp only [List.setIfInBounds_toArray, List.set_cons_zero, List.set_cons_succ]
            refine wpAnyH_ready (rs := [17]) (by kernel_rfl) (by simp) ?_
            refine all_wp 17 _ ((X.setCells g ((k + 1) * 2) (enc y)).setCells g (k * 2) (enc x)) rfl (by rfl) (fun K' hk => wp_store_mid 41 (.tmp 52) (.tmp 50) rfl g (k * 2) (enc x).toArray rfl rfl (H1.out.there enc_len lr) (by rw [List.size_toArray, enc_len]; exact infoE) (all_oneCell_toArray (enc_one _)) (by simpa only [List.toList_toArray] using hk)) trivial (fun hHeld => ?_) all_nil
            simp only [Act.put]
            refine wpAnyH_done (by kernel_rfl) ?_ _
            have HIN := Lib.hid (HYES.out _ H2.out G2.out)
            generalize ((X.setCells g ((k + 1) * 2) (enc y)).setCells g (k * 2) (enc x)) = Z at *
            clear H1 H2 G2 HA1 HG1 HAd HGd HX HY
            go_wp2
            exact ⟨⟨k, by omega, by omega, by go_num, HIN.out⟩, by simp [intOf] <;> omega⟩
          · have hc0 : ¬ c < 0 := fun h => hlt2 (hcl.1 h)
            have hlt2 : lt (key x) (key y) = false := by simpa using hlt2
            have hc1 : 0 ≤ c := by omega
            clear hcl
            go_wp2_with fail
            refine wp_region_held_drew (S := fun w' => Arr enc 2 w' g L ∧ w.grownBy w' (some g)) (by kernel_rfl) ⟨hAL.drew, grown_trans hgr (grown_drew _ _)⟩ (fun hHeld => ?_)
            refine take_at 0 18 (.int .i64 ((k : Int) + 1)) rfl (by rfl) (by kernel_rfl) (by kernel_rfl) (by kernel_rfl) (fun _ _ _ h => h) (Or.inl ⟨by rfl, fun w' hSw => by go_simp⟩) (by assumption) ?_
            simp only [List.setIfInBounds_toArray, List.set_cons_zero, List.set_cons_succ]
            refine take_at 1 19 (.int .i64 A0) rfl (by rfl) (by kernel_rfl) (by kernel_rfl) (by kernel_rfl) (fun _ _ _ h => h) (Or.inl ⟨by rfl, fun w' hSw => by go_simp⟩) (by assumption) ?_
            simp only [List.setIfInBounds_toArray, List.set_cons_zero, List.set_cons_succ]
            refine take_at 2 20 (.bool true) rfl (by rfl) (by kernel_rfl) (by kernel_rfl) (by kernel_rfl) (fun _ _ _ h => h) (Or.inl ⟨by rfl, fun w' hSw => by go_simp⟩) (by assumption) ?_
            simp only [List.setIfInBounds_toArray, List.set_cons_zero, List.set_cons_succ]
            refine take_at 3 21 (.bool true) rfl (by rfl) (by kernel_rfl) (by kernel_rfl) (by kernel_rfl) (fun _ _ _ h => h) (Or.inl ⟨by rfl, fun w' hSw => by go_simp⟩) (by assumption) ?_
            simp only [List.setIfInBounds_toArray, List.set_cons_zero, List.set_cons_succ]
            refine take_at 4 22 (.func (.func 56) #[] #[]) rfl (by rfl) (by kernel_rfl) (by kernel_rfl) (by kernel_rfl) (fun _ _ _ h => h) (Or.inl ⟨by rfl, fun w' hSw => by go_simp⟩) (by assumption) ?_
            simp only [List.setIfInBounds_toArray, List.set_cons_zero, List.set_cons_succ]
            refine take_at 5 23 (.slice (some ⟨g, 0, none⟩) N cap) rfl (by rfl) (by kernel_rfl) (by kernel_rfl) (by kernel_rfl) (fun _ _ _ h => h) (Or.inl ⟨by rfl, fun w' hSw => by go_simp⟩) (by assumption) ?_
            simp only [List.setIfInBounds_toArray, List.set_cons_zero, List.set_cons_succ]
            refine take_at 6 24 (.int .i64 ((k : Int) + 1)) rfl (by rfl) (by kernel_rfl) (by kernel_rfl) (by kernel_rfl) (fun _ _ _ h => h) (Or.inl ⟨by rfl, fun w' hSw => by go_simp⟩) (by assumption) ?_
            simp only [List.setIfInBounds_toArray, List.set_cons_zero, List.set_cons_succ]
            refine take_at 7 25 (.pointer (some ⟨g, (k + 1) * 2, none⟩)) rfl (by rfl) (by kernel_rfl) (by kernel_rfl) (by kernel_rfl) (fun _ _ _ h => h) (Or.inl ⟨by rfl, fun w' hSw => by go_simp⟩) (by assumption) ?_
            simp only [List.setIfInBounds_toArray, List.set_cons_zero, List.set_cons_succ]
            refine take_at 8 26 (.agg (enc x).toArray) rfl (by rfl) (by kernel_rfl) (by kernel_rfl) (by kernel_rfl) (fun _ _ _ h => h) (yieldsIf_load_mid (by rfl) _ _ rfl _ _ rfl (enc x) _ (fun w' hSw => hSw.1.range hx) Tryd.underlying41 rfl (by rw [enc_len]; exact infoE)) (by assumption) ?_
            simp only [List.setIfInBounds_toArray, List.set_cons_zero, List.set_cons_succ]
            refine take_at 9 27 (.slice (some ⟨g, 0, none⟩) N cap) rfl (by rfl) (by kernel_rfl) (by kernel_rfl) (by kernel_rfl) (fun _ _ _ h => h) (Or.inl ⟨by rfl, fun w' hSw => by go_simp⟩) (by assumption) ?_
            simp only [List.setIfInBounds_toArray, List.set_cons_zero, List.set_cons_succ]
            refine take_at 10 28 (.int .i64 ((k : Int) + 1)) rfl (by rfl) (by kernel_rfl) (by kernel_rfl) (by kernel_rfl) (fun _ _ _ h => h) (Or.inl ⟨by rfl, fun w' hSw => by go_simp⟩) (by assumption) ?_
            simp only [List.setIfInBounds_toArray, List.set_cons_zero, List.set_cons_succ]
            refine take_at 11 29 (.int .i64 k) rfl (by rfl) (by kernel_rfl) (by kernel_rfl) (by kernel_rfl) (fun _ _ _ h => h) (Or.inl ⟨by rfl, fun w' hSw => by go_simp <;> exact IntWalk.i64_in _ ⟨by omega, by omega⟩⟩) (by assumption) ?_
            simp only [List.setIfInBounds_toArray, List.set_cons_zero, List.set_cons_succ]
            refine take_at 12 30 (.pointer (some ⟨g, k * 2, none⟩)) rfl (by rfl) (by kernel_rfl) (by kernel_rfl) (by kernel_rfl) (fun _ _ _ h => h) (Or.inl ⟨by rfl, fun w' hSw => by go_simp⟩) (by assumption) ?_
            simp only [List.setIfInBounds_toArray, List.set_cons_zero, List.set_cons_succ]
            refine take_at 13 31 (.agg (enc y).toArray) rfl (by rfl) (by kernel_rfl) (by kernel_rfl) (by kernel_rfl) (fun _ _ _ h => h) (yieldsIf_load_mid (by rfl) _ _ rfl _ _ rfl (enc y) _ (fun w' hSw => hSw.1.range hy) Tryd.underlying41 rfl (by rw [enc_len]; exact infoE)) (by assumption) ?_
            simp only [List.setIfInBounds_toArray, List.set_cons_zero, List.set_cons_succ]
            refine wpAnyH_ready (rs := [14]) (by kernel_rfl) (by simp) ?_
            refine AllReadyH.cons rfl (fun K hK => ?_) AllReadyH.nil
            go_simp
            go_wp2_with (go_at_call 56; refine (cmp_at x y c hcf _).mono ?_; rintro e w5 ⟨rfl, hg5⟩)
            refine hK.out _ _ ⟨hHeld.1.grown0 enc_len (by omega) hg5, grown_trans hHeld.2 (grown_weak hg5 _)⟩ (fun hHeld => ?_)
            clear hK K
            refine take_at 15 33 (.bool false) rfl (by rfl) (by kernel_rfl) (by kernel_rfl) (by kernel_rfl) (fun _ _ _ h => h) (Or.inl ⟨by rfl, fun w' hSw => by go_simp⟩) (by assumption) ?_
            simp only [List.setIfInBounds_toArray, List.set_cons_zero, List.set_cons_succ]
            refine take_at 16 34 (.bool false) rfl (by rfl) (by kernel_rfl) (by kernel_rfl) (by kernel_rfl) (fun _ _ _ h => h) (Or.inl ⟨by rfl, fun w' hSw => by go_simp⟩) (by assumption) ?_
            simp only [List.setIfInBounds_toArray, List.set_cons_zero, List.set_cons_succ]
            refine wpAnyH_done (by kernel_rfl) ?_ _
            have HOU := Lib.hid (hno hlt2 _ hHeld.1 hHeld.2)
            clear hHeld hno hyes hAL hgr
            go_wp2
            exact ⟨⟨q + 1, by omega, by omega, by go_num, HOU.out⟩, by simp [intOf]; omega⟩
    · obtain rfl : q = sl := by omega
      obtain ⟨A, h1, h2, h3, h4, h5⟩ := Hid.out ho
      have h6 : Arr enc 2 wr g (P ++ (A ++ R)) ∧ A.length = S.length ∧ Srt key lt A ∧ Sm key S A ∧ w.grownBy wr (some g) := by
        rw [HSL.out, List.drop_length, List.nil_append] at h1
        rw [HSL.out, List.take_length] at h4
        exact ⟨h1, by rw [h2, HSL.out], h3, h4, h5⟩
      have HF := Lib.hid h6
      clear h1 h2 h3 h4 h5 h6 ho
      go_wp2
      exact ⟨rfl, _, results_none rfl _ _ _, rfl, A, HF.out⟩
end Go.Proofs.YtjkapmghifglcaaDoor.Sb
/- Contract of package slices' symMergeCmpFunc at changes, where one of the two stretches has one element alone. -/
namespace Go.Proofs.YtjkapmghifglcaaDoor.Sb
set_option linter.unusedVariables false
open Go.ChangeShapes Go.WideShapes Go.ChangeAt Go.RowKit
open Ar Rg St
/-- a search by halves, between L0 and H0: below lo the test says no, at hi it says yes -/
def Bs (G : Nat → Bool) (L0 H0 lo hi : Nat) : Prop := L0 ≤ lo ∧ lo ≤ hi ∧ hi ≤ H0 ∧ (lo = L0 ∨ G (lo - 1) = false) ∧ (hi = H0 ∨ G hi = true)
theorem Bs.start (G : Nat → Bool) {L0 H0 : Nat} (h : L0 ≤ H0) : Bs G L0 H0 L0 H0 := ⟨Nat.le_refl _, h, Nat.le_refl _, .inl rfl, .inl rfl⟩
theorem Bs.up {G : Nat → Bool} {L0 H0 lo hi c : Nat} (h : Bs G L0 H0 lo hi) (h1 : lo ≤ c) (h2 : c < hi) (hc : G c = false) : Bs G L0 H0 (c + 1) hi := ⟨by have := h.1; omega, by omega, h.2.2.1, .inr hc, h.2.2.2.2⟩
theorem Bs.down {G : Nat → Bool} {L0 H0 lo hi c : Nat} (h : Bs G L0 H0 lo hi) (h1 : lo ≤ c) (h2 : c < hi) (hc : G c = true) : Bs G L0 H0 lo c := ⟨h.1, h1, by have := h.2.2.1; omega, h.2.2.2.1, .inr hc⟩
def Merged (P X Y R : List Ch) (g : Nat) (w w' : World) : Prop := ∃ Z : List Ch, Arr enc 2 w' g (P ++ (Z ++ R)) ∧ Z.length = X.length + Y.length ∧ Srt key lt Z ∧ Sm key (X ++ Y) Z ∧ w.grownBy w' (some g)
theorem take_lt {Y : List Ch} {p : Nat} {k : Nat} (hs : Srt key lt Y) (h : p = 0 ∨ ∃ z, Y[p - 1]? = some z ∧ lt (key z) k = true) : ∀ y ∈ Y.take p, lt (key y) k = true := by
  rcases h with rfl | ⟨z, hz, hlt⟩
  · simp
  · rcases Nat.eq_zero_or_pos p with h0 | h0
    · subst h0; simp
    · intro y hy
      have e : Y.take p = Y.take (p - 1) ++ [z] := by
        rw [show p = (p - 1) + 1 by omega, List.take_add_one, show (p - 1 + 1) - 1 = p - 1 by omega] 
        rw [hz]; rfl
      rw [e] at hy
      have hs' : Srt key lt (Y.take (p - 1) ++ [z]) := by rw [← e]; exact List.Pairwise.sublist (List.take_sublist _ _) hs
      rcases List.mem_append.1 hy with hy | hy
      · exact O.le_lt ((Srt.append.1 hs').2.2 y hy z (by simp)) hlt
      · simp at hy; subst hy; exact hlt
theorem take_ge {Y : List Ch} {p : Nat} {k : Nat} (hs : Srt key lt Y) (h : p = 0 ∨ ∃ z, Y[p - 1]? = some z ∧ lt k (key z) = false) : ∀ y ∈ Y.take p, lt k (key y) = false := by
  rcases h with rfl | ⟨z, hz, hlt⟩
  · simp
  · rcases Nat.eq_zero_or_pos p with h0 | h0
    · subst h0; simp
    · intro y hy
      have e : Y.take p = Y.take (p - 1) ++ [z] := by
        rw [show p = (p - 1) + 1 by omega, List.take_add_one, show (p - 1 + 1) - 1 = p - 1 by omega] 
        rw [hz]; rfl
      rw [e] at hy
      have hs' : Srt key lt (Y.take (p - 1) ++ [z]) := by rw [← e]; exact List.Pairwise.sublist (List.take_sublist _ _) hs
      rcases List.mem_append.1 hy with hy | hy
      · exact O.le_trans ((Srt.append.1 hs').2.2 y hy z (by simp)) hlt
      · simp at hy; subst hy; exact hlt
theorem drop_ge {Y : List Ch} {p : Nat} {k : Nat} (hs : Srt key lt Y) (h : p = Y.length ∨ ∃ z, Y[p]? = some z ∧ lt (key z) k = false) : ∀ y ∈ Y.drop p, lt (key y) k = false := by
  rcases h with rfl | ⟨z, hz, hlt⟩
  · simp
  · obtain ⟨hp, e⟩ := List.getElem?_eq_some_iff.1 hz
    have e2 : Y.drop p = z :: Y.drop (p + 1) := by rw [List.drop_eq_getElem_cons hp, e]
    have hs' : Srt key lt (z :: Y.drop (p + 1)) := by rw [← e2]; exact List.Pairwise.sublist (List.drop_sublist _ _) hs
    rw [e2]
    intro y hy
    rcases List.mem_cons.1 hy with rfl | hy
    · exact hlt
    · have : Srt key lt ([z] ++ Y.drop (p + 1)) := hs'
      exact O.le_trans hlt ((Srt.append.1 this).2.2 z (by simp) y hy)
theorem drop_lt {Y : List Ch} {p : Nat} {k : Nat} (hs : Srt key lt Y) (h : p = Y.length ∨ ∃ z, Y[p]? = some z ∧ lt k (key z) = true) : ∀ y ∈ Y.drop p, lt k (key y) = true := by
  rcases h with rfl | ⟨z, hz, hlt⟩
  · simp
  · obtain ⟨hp, e⟩ := List.getElem?_eq_some_iff.1 hz
    have e2 : Y.drop p = z :: Y.drop (p + 1) := by rw [List.drop_eq_getElem_cons hp, e]
    have hs' : Srt key lt (z :: Y.drop (p + 1)) := by rw [← e2]; exact List.Pairwise.sublist (List.drop_sublist _ _) hs
    rw [e2]
    intro y hy
    rcases List.mem_cons.1 hy with rfl | hy
    · exact hlt
    · have : Srt key lt ([z] ++ Y.drop (p + 1)) := hs'
      exact O.lt_le hlt ((Srt.append.1 this).2.2 z (by simp) y hy)
/-- one element, put where it belongs among sorted ones, from the left, or from the right -/
theorem one_left {x : Ch} {Y : List Ch} {p : Nat} (hs : Srt key lt Y) (h1 : ∀ y ∈ Y.take p, lt (key y) (key x) = true) (h2 : ∀ y ∈ Y.drop p, lt (key y) (key x) = false) :
    Srt key lt (Y.take p ++ x :: Y.drop p) ∧ Sm key ([x] ++ Y) (Y.take p ++ x :: Y.drop p) := by
  refine ⟨Srt.put (by rw [List.take_append_drop]; exact hs) (fun y hy => O.asymm _ _ (h1 y hy)) h2, ?_⟩
  have e1 : [x] ++ Y = ([x] ++ Y.take p) ++ Y.drop p := by rw [List.append_assoc, List.take_append_drop]
  have e2 : Y.take p ++ x :: Y.drop p = (Y.take p ++ [x]) ++ Y.drop p := by simp
  rw [e1, e2]
  refine Sm.append (Sm.swap fun a ha b hb => ?_) (Sm.refl _)
  simp at ha
  subst ha
  exact (O.ne (h1 b hb)).symm
theorem one_right {y : Ch} {X : List Ch} {p : Nat} (hs : Srt key lt X) (h1 : ∀ x ∈ X.take p, lt (key y) (key x) = false) (h2 : ∀ x ∈ X.drop p, lt (key y) (key x) = true) :
    Srt key lt (X.take p ++ y :: X.drop p) ∧ Sm key (X ++ [y]) (X.take p ++ y :: X.drop p) := by
  refine ⟨Srt.put (by rw [List.take_append_drop]; exact hs) h1 (fun x hx => O.asymm _ _ (h2 x hx)), ?_⟩
  have e1 : X ++ [y] = X.take p ++ (X.drop p ++ [y]) := by rw [← List.append_assoc, List.take_append_drop]
  have e2 : X.take p ++ y :: X.drop p = X.take p ++ ([y] ++ X.drop p) := by simp
  rw [e1, e2]
  refine Sm.append (Sm.refl _) (Sm.swap fun a ha b hb => ?_)
  simp at hb
  subst hb
  exact (O.ne (h2 a ha)).symm
end Go.Proofs.YtjkapmghifglcaaDoor.Sb
