/- Contract of package slices' CompactFunc at blocks, with sameNum: the walk. -/
import Derived.Test.YtjkapmghifglcaaDoorDvI
namespace Go.Proofs.YtjkapmghifglcaaDoor.Dv
set_option linter.unusedVariables false
open Go.ChangeShapes Go.WideShapes Go.ChangeAt Go.RowKit
open Ar Rg St
open BigFrame
theorem cells_of_range {w : World} {g o : Nat} {x : Bk} (h : w.rangeAt g o (enc x)) : w.cell? ⟨g, o, none⟩ = some (.int .u32 x.n) ∧ w.cell? ⟨g, o + 1, none⟩ = some (.string x.d) := ⟨h 0 _ rfl, h 1 _ rfl⟩
theorem there_from {w : World} {g k n : Nat} {M : List Bk} (h : Arr enc 2 w g M) (hn : M.length = n) : w.there g (k * 2) ((n - k) * 2) := fun j hj => by
  have hi : k + j / 2 < M.length := by omega
  have := Arr.there Sb.enc_len h hi (j % 2) (by omega)
  rw [show (k + j / 2) * 2 + j % 2 = k * 2 + j by omega] at this
  exact this
theorem ls_take {w w' : World} {g k : Nat} {M : List Bk} (h : Arr enc 2 w g M) (hc : ∀ j, j < k * 2 → w'.cell? ⟨g, j, none⟩ = w.cell? ⟨g, j, none⟩) : Ls enc 2 w' (g + 1) (some ⟨g, 0, none⟩) (M.take k) := fun i x hx => by
  rw [List.getElem?_take] at hx
  split at hx
  · rename_i hi
    refine ⟨g, 0, rfl, Nat.lt_succ_self _, fun j v hv => ?_⟩
    have hj : j < 2 := by rw [← Sb.enc_len x]; exact (List.getElem?_eq_some_iff.1 hv).1
    rw [Nat.zero_add, hc _ (by omega)]
    exact h.range hx j v hv
  · cases hx
theorem range_eq {w : World} {g o o' : Nat} {vs : List Value} (e : o = o') (h : w.rangeAt g o vs) : w.rangeAt g o' vs := e ▸ h
set_option maxRecDepth 100000 in
set_option maxHeartbeats 4000000 in
theorem compact_any (L : List Bk) (g cap N : Nat) (hN : N = L.length) (hcap : N ≤ cap) (hm : N ≤ 281474976710656) (w : World) (hA : Arr enc 2 w g L) :
    Calls Tryd.prog 70 #[.slice (some ⟨g, 0, none⟩) N cap, SAME] w fun e w' => ∃ k, e = .returned (.slice (some ⟨g, 0, none⟩) k cap) ∧ k = (cm L N).length ∧ k ≤ cap ∧ Ls enc 2 w' (g + 1) (some ⟨g, 0, none⟩) (cm L N) ∧ w.grownBy w' (some g) := by
  unfold SAME
  have HN := Lib.hid hN
  have HA := Lib.hid hA
  clear hN hA
  by_cases h2 : N < 2
  · have q2 : decide ((N : Int) < 2) = true := decide_eq_true (by omega)
    have HE := Lib.hid (show cm L N = L by
      have hL := HN.out
      obtain h0 | h1 : N = 0 ∨ N = 1 := by omega
      · rw [h0] at hL ⊢
        exact (List.eq_nil_of_length_eq_zero hL.symm).symm
      · rw [h1] at hL ⊢
        rw [cm_one, hL, List.take_length])
    rw [HE.out]
    go_enter Tryd.func70, Tryd.ntmps70
    go_wp2
    go_ret
    exact ⟨N, rfl, HN.out, hcap, Ls.of_arr HA.out (Nat.lt_succ_self _), grown_refl _ _⟩
  · have q2 : decide ((N : Int) < 2) = false := decide_eq_false (by omega)
    have hN2 : 2 ≤ N := by omega
    clear h2
    have H1 := Lib.hid (cm_one L)
    go_enter Tryd.func70, Tryd.ntmps70
    go_wp2_with fail
    go_loopw [5] (fun v wr => ∃ p : Nat, p + 1 ≤ N ∧ v = .int .i64 ((p : Int) + 1) ∧ Hid (cm L (p + 1) = L.take (p + 1)) ∧ Hid (Arr enc 2 wr g L ∧ w.grownBy wr (some g))) (fun v _ => N - (intOf v).toNat)
    case atStart => exact ⟨0, by omega, by go_num, H1, ⟨HA.out, grown_refl _ _⟩⟩
    case round =>
      clear H1 HA
      obtain ⟨p, hp, rfl, hcm, hw⟩ := hrel
      by_cases hlt : p + 1 < N
      · obtain ⟨x, hx⟩ : ∃ x, L[p + 1]? = some x := ⟨_, List.getElem?_eq_getElem (by rw [← HN.out]; exact hlt)⟩
        obtain ⟨y, hy⟩ : ∃ y, L[p]? = some y := ⟨_, List.getElem?_eq_getElem (by rw [← HN.out]; omega)⟩
        have HX := Lib.hid hx
        have HY := Lib.hid hy
        have HNW := Lib.hid (nw_at hx hy)
        clear hx hy
        have q1 : (0 : Int) ≤ (p : Int) + 1 := by omega
        have q2 : (p : Int) + 1 < (N : Int) := by omega
        have q3 : (0 : Int) ≤ (p : Int) := by omega
        have q4 : (p : Int) < (N : Int) := by omega
        by_cases hxy : x.n = y.n
        · have hc : decide (x.n = y.n) = true := decide_eq_true hxy
          have HCI := Lib.hid (CmI.start hcm.out (by omega) (by rw [← HN.out]; exact hlt) (by rw [HNW.out, hc]; rfl))
          clear hxy
          go_wp2_with fail
          refine wp_region_held_drew (S := fun w' => Arr enc 2 w' g L ∧ w.grownBy w' (some g)) (by kernel_rfl) ⟨(Hid.out hw).1.drew, grown_trans (Hid.out hw).2 (grown_drew _ _)⟩ (fun hHeld => ?_)
          refine take_at 0 18 ((.func (.func 71) #[] #[])) rfl (by rfl) (by kernel_rfl) (by kernel_rfl) (by kernel_rfl) (fun _ _ _ h => h) (Or.inl ⟨by rfl, fun w' hSw => by go_simp⟩) (by assumption) ?_
          simp only [List.setIfInBounds_toArray, List.set_cons_zero, List.set_cons_succ]
          refine take_at 1 19 (.slice (some ⟨g, 0, none⟩) N cap) rfl (by rfl) (by kernel_rfl) (by kernel_rfl) (by kernel_rfl) (fun _ _ _ h => h) (Or.inl ⟨by rfl, fun w' hSw => by go_simp⟩) (by assumption) ?_
          simp only [List.setIfInBounds_toArray, List.set_cons_zero, List.set_cons_succ]
          refine take_at 2 20 (.int .i64 ((p : Int) + 1)) rfl (by rfl) (by kernel_rfl) (by kernel_rfl) (by kernel_rfl) (fun _ _ _ h => h) (Or.inl ⟨by rfl, fun w' hSw => by go_simp⟩) (by assumption) ?_
          simp only [List.setIfInBounds_toArray, List.set_cons_zero, List.set_cons_succ]
          refine take_at 3 21 (.pointer (some ⟨g, (p + 1) * 2, none⟩)) rfl (by rfl) (by kernel_rfl) (by kernel_rfl) (by kernel_rfl) (fun _ _ _ h => h) (Or.inl ⟨by rfl, fun w' hSw => by go_simp⟩) (by assumption) ?_
          simp only [List.setIfInBounds_toArray, List.set_cons_zero, List.set_cons_succ]
          refine take_at 4 22 (.agg (enc x).toArray) rfl (by rfl) (by kernel_rfl) (by kernel_rfl) (by kernel_rfl) (fun _ _ _ h => h) (yieldsIf_load_mid (by rfl) _ _ rfl _ _ rfl (enc x) _ (fun w' hSw => hSw.1.range HX.out) Tryd.underlying41 rfl (by rw [Sb.enc_len]; exact Sb.infoE)) (by assumption) ?_
          simp only [List.setIfInBounds_toArray, List.set_cons_zero, List.set_cons_succ]
          refine take_at 5 23 (.slice (some ⟨g, 0, none⟩) N cap) rfl (by rfl) (by kernel_rfl) (by kernel_rfl) (by kernel_rfl) (fun _ _ _ h => h) (Or.inl ⟨by rfl, fun w' hSw => by go_simp⟩) (by assumption) ?_
          simp only [List.setIfInBounds_toArray, List.set_cons_zero, List.set_cons_succ]
          refine take_at 6 24 (.int .i64 ((p : Int) + 1)) rfl (by rfl) (by kernel_rfl) (by kernel_rfl) (by kernel_rfl) (fun _ _ _ h => h) (Or.inl ⟨by rfl, fun w' hSw => by go_simp⟩) (by assumption) ?_
          simp only [List.setIfInBounds_toArray, List.set_cons_zero, List.set_cons_succ]
          refine take_at 7 25 (.int .i64 p) rfl (by rfl) (by kernel_rfl) (by kernel_rfl) (by kernel_rfl) (fun _ _ _ h => h) (Or.inl ⟨by rfl, fun w' hSw => by go_simp <;> exact IntWalk.i64_in _ ⟨by omega, by omega⟩⟩) (by assumption) ?_
          simp only [List.setIfInBounds_toArray, List.set_cons_zero, List.set_cons_succ]
          refine take_at 8 26 (.pointer (some ⟨g, p * 2, none⟩)) rfl (by rfl) (by kernel_rfl) (by kernel_rfl) (by kernel_rfl) (fun _ _ _ h => h) (Or.inl ⟨by rfl, fun w' hSw => by go_simp⟩) (by assumption) ?_
          simp only [List.setIfInBounds_toArray, List.set_cons_zero, List.set_cons_succ]
          refine take_at 9 27 (.agg (enc y).toArray) rfl (by rfl) (by kernel_rfl) (by kernel_rfl) (by kernel_rfl) (fun _ _ _ h => h) (yieldsIf_load_mid (by rfl) _ _ rfl _ _ rfl (enc y) _ (fun w' hSw => hSw.1.range HY.out) Tryd.underlying41 rfl (by rw [Sb.enc_len]; exact Sb.infoE)) (by assumption) ?_
          simp only [List.setIfInBounds_toArray, List.set_cons_zero, List.set_cons_succ]
          refine wpAnyH_ready (rs := [10]) (by kernel_rfl) (by simp) ?_
          refine AllReadyH.cons rfl (fun K hK => ?_) AllReadyH.nil
          go_simp
          go_wp2_with (go_at_call 71; refine (same_at x y true hc _).mono ?_; rintro e w5 ⟨rfl, hg5⟩)
          refine hK.out _ _ ⟨hHeld.1.grown0 Sb.enc_len (by omega) hg5, grown_trans hHeld.2 (grown_weak hg5 _)⟩ (fun hHeld => ?_)
          clear hK K
          refine wpAnyH_done (by kernel_rfl) ?_ _
          obtain ⟨hH1, hH2⟩ := hHeld
          have HW5 := Lib.hid (show Arr enc 2 w5 g L ∧ w.grownBy w5 (some g) from ⟨hH1, hH2⟩)
          clear hH1 hH2 hw hc hg5
          go_wp2_with fail
          go_loopw [5, 7] (fun kv jv wi => ∃ (i k : Nat) (M : List Bk), p + 1 + (i + 1) ≤ N ∧ kv = .int .i64 k ∧ jv = .int .i64 ((i : Int) + 1) ∧ Hid (CmI L M (p + 1 + (i + 1)) k) ∧ Hid (Arr enc 2 wi g M ∧ w.grownBy wi (some g))) (fun _ jv _ => N - (intOf jv).toNat)
          case atStart => exact ⟨0, p + 1, L, by omega, by go_num, by go_num, HCI.out, HW5.out⟩
          case round =>
            clear HCI HW5 hcm HX HY HNW hHeld
            obtain ⟨i, k, M, hi, rfl, rfl, hci, hwi⟩ := hrel
            have hkl : k + 1 ≤ p + 1 + (i + 1) := (Hid.out hci).low
            have hkN : k < N := by omega
            have HML := Lib.hid (show M.length = N by rw [HN.out]; exact (Hid.out hci).len)
            have r1 : (0 : Int) ≤ (i : Int) + 1 := by omega
            have r3 : (0 : Int) ≤ (i : Int) := by omega
            by_cases hin : p + 1 + (i + 1) < N
            · obtain ⟨x', hx⟩ : ∃ x, L[p + 1 + (i + 1)]? = some x := ⟨_, List.getElem?_eq_getElem (by rw [← HN.out]; exact hin)⟩
              obtain ⟨y', hy⟩ : ∃ y, L[p + 1 + i]? = some y := ⟨_, List.getElem?_eq_getElem (by rw [← HN.out]; omega)⟩
              have HX0 := Lib.hid hx
              have HX1 := Lib.hid (show M[p + 1 + (i + 1)]? = some x' by rw [(Hid.out hci).get (by omega)]; exact hx)
              have HY1 := Lib.hid (show M[p + 1 + i]? = some y' by rw [(Hid.out hci).get (by omega)]; exact hy)
              have HNW := Lib.hid (show nw L (p + 1 + (i + 1)) = !decide (x'.n = y'.n) from nw_at hx hy)
              have HE1 := Lib.hid (show (p + 1 + (i + 1)) * 2 = (p + 1) * 2 + (i + 1) * 2 by omega)
              have HE2 := Lib.hid (show (p + 1 + i) * 2 = (p + 1) * 2 + i * 2 by omega)
              clear hx hy
              have r2 : (i : Int) + 1 < ((N - (p + 1) : Nat) : Int) := by omega
              have r4 : (i : Int) < ((N - (p + 1) : Nat) : Int) := by omega
              by_cases hxy : x'.n = y'.n
              · have hc1 : decide (x'.n = y'.n) = true := decide_eq_true hxy
                have HOLD := Lib.hid ((Hid.out hci).old (by rw [HNW.out, hc1]; rfl))
                clear hxy
                go_wp2_with fail
                refine wp_region_held_drew (S := fun w' => Arr enc 2 w' g M ∧ w.grownBy w' (some g)) (by kernel_rfl) ⟨(Hid.out hwi).1.drew, grown_trans (Hid.out hwi).2 (grown_drew _ _)⟩ (fun hHeld => ?_)
                refine take_at 0 38 ((.func (.func 71) #[] #[])) rfl (by rfl) (by kernel_rfl) (by kernel_rfl) (by kernel_rfl) (fun _ _ _ h => h) (Or.inl ⟨by rfl, fun w' hSw => by go_simp⟩) (by assumption) ?_
                simp only [List.setIfInBounds_toArray, List.set_cons_zero, List.set_cons_succ]
                refine take_at 1 39 (.slice (some ⟨g, (p + 1) * 2, none⟩) (N - (p + 1)) (cap - (p + 1))) rfl (by rfl) (by kernel_rfl) (by kernel_rfl) (by kernel_rfl) (fun _ _ _ h => h) (Or.inl ⟨by rfl, fun w' hSw => by go_simp⟩) (by assumption) ?_
                simp only [List.setIfInBounds_toArray, List.set_cons_zero, List.set_cons_succ]
                refine take_at 2 40 (.int .i64 ((i : Int) + 1)) rfl (by rfl) (by kernel_rfl) (by kernel_rfl) (by kernel_rfl) (fun _ _ _ h => h) (Or.inl ⟨by rfl, fun w' hSw => by go_simp⟩) (by assumption) ?_
                simp only [List.setIfInBounds_toArray, List.set_cons_zero, List.set_cons_succ]
                refine take_at 3 41 (.pointer (some ⟨g, (p + 1) * 2 + (i + 1) * 2, none⟩)) rfl (by rfl) (by kernel_rfl) (by kernel_rfl) (by kernel_rfl) (fun _ _ _ h => h) (Or.inl ⟨by rfl, fun w' hSw => by go_simp⟩) (by assumption) ?_
                simp only [List.setIfInBounds_toArray, List.set_cons_zero, List.set_cons_succ]
                refine take_at 4 42 (.agg (enc x').toArray) rfl (by rfl) (by kernel_rfl) (by kernel_rfl) (by kernel_rfl) (fun _ _ _ h => h) (yieldsIf_load_mid (by rfl) _ _ rfl _ _ rfl (enc x') _ (fun w' hSw => range_eq HE1.out (hSw.1.range HX1.out)) Tryd.underlying41 rfl (by rw [Sb.enc_len]; exact Sb.infoE)) (by assumption) ?_
                simp only [List.setIfInBounds_toArray, List.set_cons_zero, List.set_cons_succ]
                refine take_at 5 43 (.slice (some ⟨g, (p + 1) * 2, none⟩) (N - (p + 1)) (cap - (p + 1))) rfl (by rfl) (by kernel_rfl) (by kernel_rfl) (by kernel_rfl) (fun _ _ _ h => h) (Or.inl ⟨by rfl, fun w' hSw => by go_simp⟩) (by assumption) ?_
                simp only [List.setIfInBounds_toArray, List.set_cons_zero, List.set_cons_succ]
                refine take_at 6 44 (.int .i64 ((i : Int) + 1)) rfl (by rfl) (by kernel_rfl) (by kernel_rfl) (by kernel_rfl) (fun _ _ _ h => h) (Or.inl ⟨by rfl, fun w' hSw => by go_simp⟩) (by assumption) ?_
                simp only [List.setIfInBounds_toArray, List.set_cons_zero, List.set_cons_succ]
                refine take_at 7 45 (.int .i64 i) rfl (by rfl) (by kernel_rfl) (by kernel_rfl) (by kernel_rfl) (fun _ _ _ h => h) (Or.inl ⟨by rfl, fun w' hSw => by go_simp <;> exact IntWalk.i64_in _ ⟨by omega, by omega⟩⟩) (by assumption) ?_
                simp only [List.setIfInBounds_toArray, List.set_cons_zero, List.set_cons_succ]
                refine take_at 8 46 (.pointer (some ⟨g, (p + 1) * 2 + i * 2, none⟩)) rfl (by rfl) (by kernel_rfl) (by kernel_rfl) (by kernel_rfl) (fun _ _ _ h => h) (Or.inl ⟨by rfl, fun w' hSw => by go_simp⟩) (by assumption) ?_
                simp only [List.setIfInBounds_toArray, List.set_cons_zero, List.set_cons_succ]
                refine take_at 9 47 (.agg (enc y').toArray) rfl (by rfl) (by kernel_rfl) (by kernel_rfl) (by kernel_rfl) (fun _ _ _ h => h) (yieldsIf_load_mid (by rfl) _ _ rfl _ _ rfl (enc y') _ (fun w' hSw => range_eq HE2.out (hSw.1.range HY1.out)) Tryd.underlying41 rfl (by rw [Sb.enc_len]; exact Sb.infoE)) (by assumption) ?_
                simp only [List.setIfInBounds_toArray, List.set_cons_zero, List.set_cons_succ]
                refine wpAnyH_ready (rs := [10]) (by kernel_rfl) (by simp) ?_
                refine AllReadyH.cons rfl (fun K hK => ?_) AllReadyH.nil
                go_simp
                go_wp2_with (go_at_call 71; refine (same_at x' y' true hc1 _).mono ?_; rintro e w5 ⟨rfl, hg5⟩)
                refine hK.out _ _ ⟨hHeld.1.grown0 Sb.enc_len (by omega) hg5, grown_trans hHeld.2 (grown_weak hg5 _)⟩ (fun hHeld => ?_)
                clear hK K
                refine take_at 11 49 (.bool false) rfl (by rfl) (by kernel_rfl) (by kernel_rfl) (by kernel_rfl) (fun _ _ _ h => h) (Or.inl ⟨by rfl, fun w' hSw => by go_simp⟩) (by assumption) ?_
                simp only [List.setIfInBounds_toArray, List.set_cons_zero, List.set_cons_succ]
                refine wpAnyH_done (by kernel_rfl) ?_ _
                obtain ⟨hH1, hH2⟩ := hHeld
                have HW6 := Lib.hid (show Arr enc 2 w5 g M ∧ w.grownBy w5 (some g) from ⟨hH1, hH2⟩)
                clear hH1 hH2 hwi hc1 hg5
                go_wp2
                exact ⟨⟨i + 1, k, M, by omega, rfl, by go_num, HOLD.out, HW6.out⟩, by simp [intOf]; omega⟩
              · have hc1 : decide (x'.n = y'.n) = false := decide_eq_false hxy
                have HNEW := Lib.hid ((Hid.out hci).new HX0.out (by rw [HNW.out, hc1]; rfl))
                clear hxy
                go_wp2_with fail
                refine wp_region_held_drew (S := fun w' => Arr enc 2 w' g M ∧ w.grownBy w' (some g)) (by kernel_rfl) ⟨(Hid.out hwi).1.drew, grown_trans (Hid.out hwi).2 (grown_drew _ _)⟩ (fun hHeld => ?_)
                refine take_at 0 38 ((.func (.func 71) #[] #[])) rfl (by rfl) (by kernel_rfl) (by kernel_rfl) (by kernel_rfl) (fun _ _ _ h => h) (Or.inl ⟨by rfl, fun w' hSw => by go_simp⟩) (by assumption) ?_
                simp only [List.setIfInBounds_toArray, List.set_cons_zero, List.set_cons_succ]
                refine take_at 1 39 (.slice (some ⟨g, (p + 1) * 2, none⟩) (N - (p + 1)) (cap - (p + 1))) rfl (by rfl) (by kernel_rfl) (by kernel_rfl) (by kernel_rfl) (fun _ _ _ h => h) (Or.inl ⟨by rfl, fun w' hSw => by go_simp⟩) (by assumption) ?_
                simp only [List.setIfInBounds_toArray, List.set_cons_zero, List.set_cons_succ]
                refine take_at 2 40 (.int .i64 ((i : Int) + 1)) rfl (by rfl) (by kernel_rfl) (by kernel_rfl) (by kernel_rfl) (fun _ _ _ h => h) (Or.inl ⟨by rfl, fun w' hSw => by go_simp⟩) (by assumption) ?_
                simp only [List.setIfInBounds_toArray, List.set_cons_zero, List.set_cons_succ]
                refine take_at 3 41 (.pointer (some ⟨g, (p + 1) * 2 + (i + 1) * 2, none⟩)) rfl (by rfl) (by kernel_rfl) (by kernel_rfl) (by kernel_rfl) (fun _ _ _ h => h) (Or.inl ⟨by rfl, fun w' hSw => by go_simp⟩) (by assumption) ?_
                simp only [List.setIfInBounds_toArray, List.set_cons_zero, List.set_cons_succ]
                refine take_at 4 42 (.agg (enc x').toArray) rfl (by rfl) (by kernel_rfl) (by kernel_rfl) (by kernel_rfl) (fun _ _ _ h => h) (yieldsIf_load_mid (by rfl) _ _ rfl _ _ rfl (enc x') _ (fun w' hSw => range_eq HE1.out (hSw.1.range HX1.out)) Tryd.underlying41 rfl (by rw [Sb.enc_len]; exact Sb.infoE)) (by assumption) ?_
                simp only [List.setIfInBounds_toArray, List.set_cons_zero, List.set_cons_succ]
                refine take_at 5 43 (.slice (some ⟨g, (p + 1) * 2, none⟩) (N - (p + 1)) (cap - (p + 1))) rfl (by rfl) (by kernel_rfl) (by kernel_rfl) (by kernel_rfl) (fun _ _ _ h => h) (Or.inl ⟨by rfl, fun w' hSw => by go_simp⟩) (by assumption) ?_
                simp only [List.setIfInBounds_toArray, List.set_cons_zero, List.set_cons_succ]
                refine take_at 6 44 (.int .i64 ((i : Int) + 1)) rfl (by rfl) (by kernel_rfl) (by kernel_rfl) (by kernel_rfl) (fun _ _ _ h => h) (Or.inl ⟨by rfl, fun w' hSw => by go_simp⟩) (by assumption) ?_
                simp only [List.setIfInBounds_toArray, List.set_cons_zero, List.set_cons_succ]
                refine take_at 7 45 (.int .i64 i) rfl (by rfl) (by kernel_rfl) (by kernel_rfl) (by kernel_rfl) (fun _ _ _ h => h) (Or.inl ⟨by rfl, fun w' hSw => by go_simp <;> exact IntWalk.i64_in _ ⟨by omega, by omega⟩⟩) (by assumption) ?_
                simp only [List.setIfInBounds_toArray, List.set_cons_zero, List.set_cons_succ]
                refine take_at 8 46 (.pointer (some ⟨g, (p + 1) * 2 + i * 2, none⟩)) rfl (by rfl) (by kernel_rfl) (by kernel_rfl) (by kernel_rfl) (fun _ _ _ h => h) (Or.inl ⟨by rfl, fun w' hSw => by go_simp⟩) (by assumption) ?_
                simp only [List.setIfInBounds_toArray, List.set_cons_zero, List.set_cons_succ]
                refine take_at 9 47 (.agg (enc y').toArray) rfl (by rfl) (by kernel_rfl) (by kernel_rfl) (by kernel_rfl) (fun _ _ _ h => h) (yieldsIf_load_mid (by rfl) _ _ rfl _ _ rfl (enc y') _ (fun w' hSw => range_eq HE2.out (hSw.1.range HY1.out)) Tryd.underlying41 rfl (by rw [Sb.enc_len]; exact Sb.infoE)) (by assumption) ?_
                simp only [List.setIfInBounds_toArray, List.set_cons_zero, List.set_cons_succ]
                refine wpAnyH_ready (rs := [10]) (by kernel_rfl) (by simp) ?_
                refine AllReadyH.cons rfl (fun K hK => ?_) AllReadyH.nil
                go_simp
                go_wp2_with (go_at_call 71; refine (same_at x' y' false hc1 _).mono ?_; rintro e w5 ⟨rfl, hg5⟩)
                refine hK.out _ _ ⟨hHeld.1.grown0 Sb.enc_len (by omega) hg5, grown_trans hHeld.2 (grown_weak hg5 _)⟩ (fun hHeld => ?_)
                clear hK K
                refine take_at 11 49 (.bool true) rfl (by rfl) (by kernel_rfl) (by kernel_rfl) (by kernel_rfl) (fun _ _ _ h => h) (Or.inl ⟨by rfl, fun w' hSw => by go_simp⟩) (by assumption) ?_
                simp only [List.setIfInBounds_toArray, List.set_cons_zero, List.set_cons_succ]
                refine wpAnyH_done (by kernel_rfl) ?_ _
                obtain ⟨hH1, hH2⟩ := hHeld
                obtain ⟨d0, d1⟩ := cells_of_range (range_eq HE1.out (hH1.range HX1.out))
                have HT := Lib.hid (Arr.there Sb.enc_len hH1 (i := k) (by rw [HML.out]; exact hkN))
                have HW6 := Lib.hid (show Arr enc 2 (w5.setCells g (k * 2) (enc x')) g (M.set k x') ∧ w.grownBy (w5.setCells g (k * 2) (enc x')) (some g) from ⟨hH1.store Sb.enc_len (by rw [HML.out]; exact hkN) x', grown_trans hH2 (grown_setCells _ _ _ _)⟩)
                have k1 : (0 : Int) ≤ (k : Int) := by omega
                have k2 : (k : Int) < (N : Int) := by omega
                clear hH1 hH2 hwi hc1 hg5
                go_wp2_with (refine wpList_store_mid rfl 41 (.tmp 56) (.tmp 55) rfl g (k * 2) (enc x').toArray rfl rfl HT.out Sb.infoE (all_oneCell_toArray (Sb.enc_one x')) ?_)
                exact ⟨⟨i + 1, k + 1, M.set k x', by omega, by go_num, by go_num, HNEW.out, HW6.out⟩, by simp [intOf]; omega⟩
            · have hend : p + 1 + (i + 1) = N := by omega
              have r2 : decide ((i : Int) + 1 < ((N - (p + 1) : Nat) : Int)) = false := decide_eq_false (by omega)
              have HT := Lib.hid (there_from (k := k) (Hid.out hwi).1 HML.out)
              have HK := Lib.hid (show k = (cm L N).length ∧ M.take k = cm L N by rw [← hend]; exact ⟨(Hid.out hci).num, (Hid.out hci).done⟩)
              clear hend hin
              go_wp2_with (refine wpList_clear g (k * 2) (N - k) (cap - k) (by omega) HT.out rfl _ rfl rfl ?_; intro w6 hg6 hc6 hf6; have HG6 := Lib.hid hg6; have HC6 := Lib.hid hc6; clear hg6 hc6 hf6)
              go_ret
              exact ⟨k, rfl, HK.out.1, by omega, by rw [← HK.out.2]; exact ls_take (Hid.out hwi).1 HC6.out, grown_trans (Hid.out hwi).2 HG6.out⟩
        · have hc : decide (x.n = y.n) = false := decide_eq_false hxy
          have HCP := Lib.hid (cm_plain hcm.out (by rw [HNW.out, hc]; rfl))
          clear hxy
          go_wp2_with fail
          refine wp_region_held_drew (S := fun w' => Arr enc 2 w' g L ∧ w.grownBy w' (some g)) (by kernel_rfl) ⟨(Hid.out hw).1.drew, grown_trans (Hid.out hw).2 (grown_drew _ _)⟩ (fun hHeld => ?_)
          refine take_at 0 18 ((.func (.func 71) #[] #[])) rfl (by rfl) (by kernel_rfl) (by kernel_rfl) (by kernel_rfl) (fun _ _ _ h => h) (Or.inl ⟨by rfl, fun w' hSw => by go_simp⟩) (by assumption) ?_
          simp only [List.setIfInBounds_toArray, List.set_cons_zero, List.set_cons_succ]
          refine take_at 1 19 (.slice (some ⟨g, 0, none⟩) N cap) rfl (by rfl) (by kernel_rfl) (by kernel_rfl) (by kernel_rfl) (fun _ _ _ h => h) (Or.inl ⟨by rfl, fun w' hSw => by go_simp⟩) (by assumption) ?_
          simp only [List.setIfInBounds_toArray, List.set_cons_zero, List.set_cons_succ]
          refine take_at 2 20 (.int .i64 ((p : Int) + 1)) rfl (by rfl) (by kernel_rfl) (by kernel_rfl) (by kernel_rfl) (fun _ _ _ h => h) (Or.inl ⟨by rfl, fun w' hSw => by go_simp⟩) (by assumption) ?_
          simp only [List.setIfInBounds_toArray, List.set_cons_zero, List.set_cons_succ]
          refine take_at 3 21 (.pointer (some ⟨g, (p + 1) * 2, none⟩)) rfl (by rfl) (by kernel_rfl) (by kernel_rfl) (by kernel_rfl) (fun _ _ _ h => h) (Or.inl ⟨by rfl, fun w' hSw => by go_simp⟩) (by assumption) ?_
          simp only [List.setIfInBounds_toArray, List.set_cons_zero, List.set_cons_succ]
          refine take_at 4 22 (.agg (enc x).toArray) rfl (by rfl) (by kernel_rfl) (by kernel_rfl) (by kernel_rfl) (fun _ _ _ h => h) (yieldsIf_load_mid (by rfl) _ _ rfl _ _ rfl (enc x) _ (fun w' hSw => hSw.1.range HX.out) Tryd.underlying41 rfl (by rw [Sb.enc_len]; exact Sb.infoE)) (by assumption) ?_
          simp only [List.setIfInBounds_toArray, List.set_cons_zero, List.set_cons_succ]
          refine take_at 5 23 (.slice (some ⟨g, 0, none⟩) N cap) rfl (by rfl) (by kernel_rfl) (by kernel_rfl) (by kernel_rfl) (fun _ _ _ h => h) (Or.inl ⟨by rfl, fun w' hSw => by go_simp⟩) (by assumption) ?_
          simp only [List.setIfInBounds_toArray, List.set_cons_zero, List.set_cons_succ]
          refine take_at 6 24 (.int .i64 ((p : Int) + 1)) rfl (by rfl) (by kernel_rfl) (by kernel_rfl) (by kernel_rfl) (fun _ _ _ h => h) (Or.inl ⟨by rfl, fun w' hSw => by go_simp⟩) (by assumption) ?_
          simp only [List.setIfInBounds_toArray, List.set_cons_zero, List.set_cons_succ]
          refine take_at 7 25 (.int .i64 p) rfl (by rfl) (by kernel_rfl) (by kernel_rfl) (by kernel_rfl) (fun _ _ _ h => h) (Or.inl ⟨by rfl, fun w' hSw => by go_simp <;> exact IntWalk.i64_in _ ⟨by omega, by omega⟩⟩) (by assumption) ?_
          simp only [List.setIfInBounds_toArray, List.set_cons_zero, List.set_cons_succ]
          refine take_at 8 26 (.pointer (some ⟨g, p * 2, none⟩)) rfl (by rfl) (by kernel_rfl) (by kernel_rfl) (by kernel_rfl) (fun _ _ _ h => h) (Or.inl ⟨by rfl, fun w' hSw => by go_simp⟩) (by assumption) ?_
          simp only [List.setIfInBounds_toArray, List.set_cons_zero, List.set_cons_succ]
          refine take_at 9 27 (.agg (enc y).toArray) rfl (by rfl) (by kernel_rfl) (by kernel_rfl) (by kernel_rfl) (fun _ _ _ h => h) (yieldsIf_load_mid (by rfl) _ _ rfl _ _ rfl (enc y) _ (fun w' hSw => hSw.1.range HY.out) Tryd.underlying41 rfl (by rw [Sb.enc_len]; exact Sb.infoE)) (by assumption) ?_
          simp only [List.setIfInBounds_toArray, List.set_cons_zero, List.set_cons_succ]
          refine wpAnyH_ready (rs := [10]) (by kernel_rfl) (by simp) ?_
          refine AllReadyH.cons rfl (fun K hK => ?_) AllReadyH.nil
          go_simp
          go_wp2_with (go_at_call 71; refine (same_at x y false hc _).mono ?_; rintro e w5 ⟨rfl, hg5⟩)
          refine hK.out _ _ ⟨hHeld.1.grown0 Sb.enc_len (by omega) hg5, grown_trans hHeld.2 (grown_weak hg5 _)⟩ (fun hHeld => ?_)
          clear hK K
          refine wpAnyH_done (by kernel_rfl) ?_ _
          obtain ⟨hH1, hH2⟩ := hHeld
          have HW5 := Lib.hid (show Arr enc 2 w5 g L ∧ w.grownBy w5 (some g) from ⟨hH1, hH2⟩)
          clear hH1 hH2 hw hc hg5
          go_wp2
          exact ⟨⟨p + 1, by omega, by go_num, HCP.out, HW5.out⟩, by simp [intOf]; omega⟩
      · have hpe : p + 1 = N := by omega
        have HE := Lib.hid (show cm L N = L by rw [← hpe, hcm.out, hpe, HN.out, List.take_length])
        have q2 : decide ((p : Int) + 1 < (N : Int)) = false := decide_eq_false (by omega)
        clear hpe
        go_wp2
        go_ret
        exact ⟨N, rfl, by rw [HE.out]; exact HN.out, hcap, by rw [HE.out]; exact Ls.of_arr (Hid.out hw).1 (Nat.lt_succ_self _), (Hid.out hw).2⟩
end Go.Proofs.YtjkapmghifglcaaDoor.Dv
