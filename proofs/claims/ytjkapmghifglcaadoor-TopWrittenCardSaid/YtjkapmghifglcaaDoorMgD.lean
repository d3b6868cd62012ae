/- Contract of package slices' symMergeCmpFunc at changes, where the second stretch has one element alone. -/
import Derived.Test.YtjkapmghifglcaaDoorBkF
namespace Go.Proofs.YtjkapmghifglcaaDoor.Sb
set_option linter.unusedVariables false
open Go.ChangeShapes Go.WideShapes Go.ChangeAt Go.RowKit
open Ar Rg St
def GB (D : List Ch) (y : Ch) (c : Nat) : Bool := match D[c]? with | some z => lt (key y) (key z) | none => false
theorem GB_at {D : List Ch} {y z : Ch} {c : Nat} (h : D[c]? = some z) : GB D y c = lt (key y) (key z) := by unfold GB; rw [h]
set_option maxRecDepth 100000 in
set_option maxHeartbeats 2000000 in
theorem sym_right (P X R D : List Ch) (y : Ch) (hD : D = P ++ (X ++ (y :: R))) (hX : 1 < X.length) (hs : Srt key lt X) (g cap N : Nat) (hN : N = D.length) (hL : N ≤ cap) (hm : N ≤ 281474976710656) (w : World) (hA : Arr enc 2 w g D) (a m b : Int) (ha : a = (P.length : Int)) (hmm : m = (P.length : Int) + X.length) (hb : b = (P.length : Int) + X.length + 1) :
    Calls Tryd.prog 101 #[.slice (some ⟨g, 0, none⟩) N cap, .int .i64 a, .int .i64 m, .int .i64 b, CMP] w fun e w' => e = .returned (.tuple #[]) ∧ Merged P X [y] R g w w' := by
  obtain ⟨A0, hA0⟩ : ∃ M : Nat, M = P.length := ⟨_, rfl⟩
  obtain ⟨xl, hxl⟩ : ∃ n, n = X.length := ⟨_, rfl⟩
  obtain ⟨M, hM⟩ : ∃ M : Nat, M = A0 + xl := ⟨_, rfl⟩
  have hlen : M + 1 ≤ N := by rw [hN, hD, hM, hA0, hxl]; simp only [List.length_append, List.length_cons]; omega
  have hDm : D = mv P X R y X.length := by rw [mv_last]; exact hD
  have hyM : D[M]? = some y := by
    rw [hD, ← List.append_assoc]; exact get_mid _ _ _ _ (by rw [List.length_append, hM, hA0, hxl])
  have HDM := Lib.hid hDm
  have HA := Lib.hid hA
  have HN := Lib.hid hN
  have HS := Lib.hid hs
  rw [← hxl] at hmm hb hX
  rw [← hA0] at ha hmm hb
  have em : m = (M : Int) := by omega
  have eb : b = (M : Int) + 1 := by omega
  have HA0 := Lib.hid hA0
  have HXL := Lib.hid hxl
  have hM1 : A0 + xl ≤ M := by omega
  have hM2 : M ≤ A0 + xl := by omega
  clear hA hD hDm hN hs hA0 hxl hmm hb hM
  subst ha em eb
  have hq0 : (((M : Int) - A0) == 1) = false := by rw [beq_eq_false_iff_ne]; omega
  have hq : (((M : Int) + 1 - M) == 1) = true := by rw [beq_iff_eq]; omega
  unfold CMP
  go_enter Tryd.func101, Tryd.ntmps101
  go_wp2_with fail
  go_loopw [14, 15] (fun v u wr => ∃ lo hi : Nat, v = .int .i64 lo ∧ u = .int .i64 hi ∧ Hid (Bs (GB D y) A0 M lo hi) ∧ Hid (Arr enc 2 wr g D) ∧ Hid (w.grownBy wr (some g))) (fun v u _ => (intOf u).toNat - (intOf v).toNat)
  case atStart => exact ⟨A0, M, by go_num, by go_num, Bs.start _ (by omega), HA.out, grown_refl _ _⟩
  case round =>
    obtain ⟨lo, hi, rfl, rfl, hbs, hAr, hgr⟩ := hrel
    have hbd := Hid.out hbs
    obtain ⟨n1, n2, n3, _⟩ := hbd
    by_cases hlt : lo < hi
    · obtain ⟨h, hh⟩ : ∃ h : Nat, ((lo : Int) + (hi : Int)) / 2 = (h : Int) := ⟨(lo + hi) / 2, by omega⟩
      have n4 : lo ≤ h := by omega
      have n5 : h < hi := by omega
      have n6 : (0 : Int) ≤ (h : Int) := by omega
      have n7 : (h : Int) < (N : Int) := by omega
      have n8 : (0 : Int) ≤ (M : Int) := by omega
      have n9 : (M : Int) < (N : Int) := by omega
      obtain ⟨z, hz⟩ : ∃ z, D[h]? = some z := ⟨_, List.getElem?_eq_getElem (by rw [← HN.out]; omega)⟩
      obtain ⟨c, hcf⟩ : ∃ c, cf y z = c := ⟨_, rfl⟩
      have hcl := cf_lt y z
      rw [hcf] at hcl
      by_cases hb : lt (key y) (key z) = true
      · have hc0 : c < 0 := hcl.2 hb
        have HDN := Lib.hid ((Hid.out hbs).down n4 n5 (by rw [GB_at hz, hb]))
        clear hcl
        go_wp2_with fail
        refine wp_region_held_drew (S := fun w' => Arr enc 2 w' g D ∧ w.grownBy w' (some g)) (by kernel_rfl) ⟨(Hid.out hAr).drew, grown_trans (Hid.out hgr) (grown_drew _ _)⟩ (fun hHeld => ?_)
        refine take_at 0 92 (.func (.func 56) #[] #[]) rfl (by rfl) (by kernel_rfl) (by kernel_rfl) (by kernel_rfl) (fun _ _ _ h => h) (Or.inl ⟨by rfl, fun w' hSw => by go_simp⟩) (by assumption) ?_
        simp only [List.setIfInBounds_toArray, List.set_cons_zero, List.set_cons_succ]
        refine take_at 1 93 (.slice (some ⟨g, 0, none⟩) N cap) rfl (by rfl) (by kernel_rfl) (by kernel_rfl) (by kernel_rfl) (fun _ _ _ h => h) (Or.inl ⟨by rfl, fun w' hSw => by go_simp⟩) (by assumption) ?_
        simp only [List.setIfInBounds_toArray, List.set_cons_zero, List.set_cons_succ]
        refine take_at 2 94 (.int .i64 M) rfl (by rfl) (by kernel_rfl) (by kernel_rfl) (by kernel_rfl) (fun _ _ _ h => h) (Or.inl ⟨by rfl, fun w' hSw => by go_simp⟩) (by assumption) ?_
        simp only [List.setIfInBounds_toArray, List.set_cons_zero, List.set_cons_succ]
        refine take_at 3 95 (.pointer (some ⟨g, M * 2, none⟩)) rfl (by rfl) (by kernel_rfl) (by kernel_rfl) (by kernel_rfl) (fun _ _ _ h => h) (Or.inl ⟨by rfl, fun w' hSw => by go_simp⟩) (by assumption) ?_
        simp only [List.setIfInBounds_toArray, List.set_cons_zero, List.set_cons_succ]
        refine take_at 4 96 (.agg (enc y).toArray) rfl (by rfl) (by kernel_rfl) (by kernel_rfl) (by kernel_rfl) (fun _ _ _ h => h) (yieldsIf_load_mid (by rfl) _ _ rfl _ _ rfl (enc y) _ (fun w' hSw => hSw.1.range hyM) Tryd.underlying41 rfl (by rw [enc_len]; exact infoE)) (by assumption) ?_
        simp only [List.setIfInBounds_toArray, List.set_cons_zero, List.set_cons_succ]
        refine take_at 5 97 (.slice (some ⟨g, 0, none⟩) N cap) rfl (by rfl) (by kernel_rfl) (by kernel_rfl) (by kernel_rfl) (fun _ _ _ h => h) (Or.inl ⟨by rfl, fun w' hSw => by go_simp⟩) (by assumption) ?_
        simp only [List.setIfInBounds_toArray, List.set_cons_zero, List.set_cons_succ]
        refine take_at 6 98 (.int .i64 h) rfl (by rfl) (by kernel_rfl) (by kernel_rfl) (by kernel_rfl) (fun _ _ _ h => h) (Or.inl ⟨by rfl, fun w' hSw => by go_simp⟩) (by assumption) ?_
        simp only [List.setIfInBounds_toArray, List.set_cons_zero, List.set_cons_succ]
        refine take_at 7 99 (.pointer (some ⟨g, h * 2, none⟩)) rfl (by rfl) (by kernel_rfl) (by kernel_rfl) (by kernel_rfl) (fun _ _ _ h => h) (Or.inl ⟨by rfl, fun w' hSw => by go_simp⟩) (by assumption) ?_
        simp only [List.setIfInBounds_toArray, List.set_cons_zero, List.set_cons_succ]
        refine take_at 8 100 (.agg (enc z).toArray) rfl (by rfl) (by kernel_rfl) (by kernel_rfl) (by kernel_rfl) (fun _ _ _ h => h) (yieldsIf_load_mid (by rfl) _ _ rfl _ _ rfl (enc z) _ (fun w' hSw => hSw.1.range hz) Tryd.underlying41 rfl (by rw [enc_len]; exact infoE)) (by assumption) ?_
        simp only [List.setIfInBounds_toArray, List.set_cons_zero, List.set_cons_succ]
        refine wpAnyH_ready (rs := [9]) (by kernel_rfl) (by simp) ?_
        refine AllReadyH.cons rfl (fun K hK => ?_) AllReadyH.nil
        go_simp
        go_wp2_with (go_at_call 56; refine (cmp_at y z c hcf _).mono ?_; rintro e w5 ⟨rfl, hg5⟩)
        refine hK.out _ _ ⟨hHeld.1.grown0 enc_len (by omega) hg5, grown_trans hHeld.2 (grown_weak hg5 _)⟩ (fun hHeld => ?_)
        clear hK K
        refine take_at 10 102 (.bool true) rfl (by rfl) (by kernel_rfl) (by kernel_rfl) (by kernel_rfl) (fun _ _ _ h => h) (Or.inl ⟨by rfl, fun w' hSw => by go_simp⟩) (by assumption) ?_
        simp only [List.setIfInBounds_toArray, List.set_cons_zero, List.set_cons_succ]
        refine take_at 11 103 (.bool false) rfl (by rfl) (by kernel_rfl) (by kernel_rfl) (by kernel_rfl) (fun _ _ _ h => h) (Or.inl ⟨by rfl, fun w' hSw => by go_simp⟩) (by assumption) ?_
        simp only [List.setIfInBounds_toArray, List.set_cons_zero, List.set_cons_succ]
        refine wpAnyH_done (by kernel_rfl) ?_ _
        obtain ⟨hH1, hH2⟩ := hHeld
        have HH1 := Lib.hid hH1
        have HH2 := Lib.hid hH2
        clear hH1 hH2 hAr hgr
        go_wp2
        exact ⟨⟨lo, h, rfl, rfl, HDN.out, HH1.out, HH2.out⟩, by simp [intOf] <;> omega⟩
      · have hc1 : ¬ c < 0 := fun e => hb (hcl.1 e)
        have hc0 : 0 ≤ c := by omega
        have HUP := Lib.hid ((Hid.out hbs).up n4 n5 (by rw [GB_at hz]; simpa using hb))
        clear hcl hc1
        go_wp2_with fail
        refine wp_region_held_drew (S := fun w' => Arr enc 2 w' g D ∧ w.grownBy w' (some g)) (by kernel_rfl) ⟨(Hid.out hAr).drew, grown_trans (Hid.out hgr) (grown_drew _ _)⟩ (fun hHeld => ?_)
        refine take_at 0 92 (.func (.func 56) #[] #[]) rfl (by rfl) (by kernel_rfl) (by kernel_rfl) (by kernel_rfl) (fun _ _ _ h => h) (Or.inl ⟨by rfl, fun w' hSw => by go_simp⟩) (by assumption) ?_
        simp only [List.setIfInBounds_toArray, List.set_cons_zero, List.set_cons_succ]
        refine take_at 1 93 (.slice (some ⟨g, 0, none⟩) N cap) rfl (by rfl) (by kernel_rfl) (by kernel_rfl) (by kernel_rfl) (fun _ _ _ h => h) (Or.inl ⟨by rfl, fun w' hSw => by go_simp⟩) (by assumption) ?_
        simp only [List.setIfInBounds_toArray, List.set_cons_zero, List.set_cons_succ]
        refine take_at 2 94 (.int .i64 M) rfl (by rfl) (by kernel_rfl) (by kernel_rfl) (by kernel_rfl) (fun _ _ _ h => h) (Or.inl ⟨by rfl, fun w' hSw => by go_simp⟩) (by assumption) ?_
        simp only [List.setIfInBounds_toArray, List.set_cons_zero, List.set_cons_succ]
        refine take_at 3 95 (.pointer (some ⟨g, M * 2, none⟩)) rfl (by rfl) (by kernel_rfl) (by kernel_rfl) (by kernel_rfl) (fun _ _ _ h => h) (Or.inl ⟨by rfl, fun w' hSw => by go_simp⟩) (by assumption) ?_
        simp only [List.setIfInBounds_toArray, List.set_cons_zero, List.set_cons_succ]
        refine take_at 4 96 (.agg (enc y).toArray) rfl (by rfl) (by kernel_rfl) (by kernel_rfl) (by kernel_rfl) (fun _ _ _ h => h) (yieldsIf_load_mid (by rfl) _ _ rfl _ _ rfl (enc y) _ (fun w' hSw => hSw.1.range hyM) Tryd.underlying41 rfl (by rw [enc_len]; exact infoE)) (by assumption) ?_
        simp only [List.setIfInBounds_toArray, List.set_cons_zero, List.set_cons_succ]
        refine take_at 5 97 (.slice (some ⟨g, 0, none⟩) N cap) rfl (by rfl) (by kernel_rfl) (by kernel_rfl) (by kernel_rfl) (fun _ _ _ h => h) (Or.inl ⟨by rfl, fun w' hSw => by go_simp⟩) (by assumption) ?_
        simp only [List.setIfInBounds_toArray, List.set_cons_zero, List.set_cons_succ]
        refine take_at 6 98 (.int .i64 h) rfl (by rfl) (by kernel_rfl) (by kernel_rfl) (by kernel_rfl) (fun _ _ _ h => h) (Or.inl ⟨by rfl, fun w' hSw => by go_simp⟩) (by assumption) ?_
        simp only [List.setIfInBounds_toArray, List.set_cons_zero, List.set_cons_succ]
        refine take_at 7 99 (.pointer (some ⟨g, h * 2, none⟩)) rfl (by rfl) (by kernel_rfl) (by kernel_rfl) (by kernel_rfl) (fun _ _ _ h => h) (Or.inl ⟨by rfl, fun w' hSw => by go_simp⟩) (by assumption) ?_
        simp only [List.setIfInBounds_toArray, List.set_cons_zero, List.set_cons_succ]
        refine take_at 8 100 (.agg (enc z).toArray) rfl (by rfl) (by kernel_rfl) (by kernel_rfl) (by kernel_rfl) (fun _ _ _ h => h) (yieldsIf_load_mid (by rfl) _ _ rfl _ _ rfl (enc z) _ (fun w' hSw => hSw.1.range hz) Tryd.underlying41 rfl (by rw [enc_len]; exact infoE)) (by assumption) ?_
        simp only [List.setIfInBounds_toArray, List.set_cons_zero, List.set_cons_succ]
        refine wpAnyH_ready (rs := [9]) (by kernel_rfl) (by simp) ?_
        refine AllReadyH.cons rfl (fun K hK => ?_) AllReadyH.nil
        go_simp
        go_wp2_with (go_at_call 56; refine (cmp_at y z c hcf _).mono ?_; rintro e w5 ⟨rfl, hg5⟩)
        refine hK.out _ _ ⟨hHeld.1.grown0 enc_len (by omega) hg5, grown_trans hHeld.2 (grown_weak hg5 _)⟩ (fun hHeld => ?_)
        clear hK K
        refine take_at 10 102 (.bool false) rfl (by rfl) (by kernel_rfl) (by kernel_rfl) (by kernel_rfl) (fun _ _ _ h => h) (Or.inl ⟨by rfl, fun w' hSw => by go_simp⟩) (by assumption) ?_
        simp only [List.setIfInBounds_toArray, List.set_cons_zero, List.set_cons_succ]
        refine take_at 11 103 (.bool true) rfl (by rfl) (by kernel_rfl) (by kernel_rfl) (by kernel_rfl) (fun _ _ _ h => h) (Or.inl ⟨by rfl, fun w' hSw => by go_simp⟩) (by assumption) ?_
        simp only [List.setIfInBounds_toArray, List.set_cons_zero, List.set_cons_succ]
        refine wpAnyH_done (by kernel_rfl) ?_ _
        obtain ⟨hH1, hH2⟩ := hHeld
        have HH1 := Lib.hid hH1
        have HH2 := Lib.hid hH2
        clear hH1 hH2 hAr hgr
        go_wp2
        exact ⟨⟨h + 1, hi, by go_num, rfl, HUP.out, HH1.out, HH2.out⟩, by simp [intOf] <;> omega⟩
    · obtain rfl : lo = hi := by omega
      obtain ⟨p, rfl⟩ : ∃ p, lo = A0 + p := ⟨lo - A0, by omega⟩
      have hp : p ≤ xl := by omega
      have hm1 : Srt key lt (X.take p ++ y :: X.drop p) ∧ Sm key (X ++ [y]) (X.take p ++ y :: X.drop p) := by
        obtain ⟨_, _, _, g1, g2⟩ := Hid.out hbs
        refine one_right HS.out (take_ge HS.out ?_) (drop_lt HS.out ?_)
        · rcases g1 with g1 | g1
          · left; omega
          · rcases Nat.eq_zero_or_pos p with h0 | h0
            · left; exact h0
            · right
              have hz := mv_old' P X R y (p - 1) (by rw [← HXL.out]; omega)
              rw [← HDM.out, ← HA0.out] at hz
              rw [show A0 + p - 1 = A0 + (p - 1) by omega, GB_at hz] at g1
              exact ⟨_, List.getElem?_eq_getElem (by rw [← HXL.out]; omega), g1⟩
        · rcases g2 with g2 | g2
          · left; rw [← HXL.out]; omega
          · rcases Nat.lt_or_ge p xl with h0 | h0
            · right
              have hz := mv_old' P X R y p (by rw [← HXL.out]; omega)
              rw [← HDM.out, ← HA0.out] at hz
              rw [GB_at hz] at g2
              exact ⟨_, List.getElem?_eq_getElem (by rw [← HXL.out]; omega), g2⟩
            · left; rw [← HXL.out]; omega
      have HM := Lib.hid hm1
      have hAr0 : Arr enc 2 wr g (mv P X R y (M - A0)) := by rw [show M - A0 = X.length by rw [← HXL.out]; omega, ← HDM.out]; exact Hid.out hAr
      have HAr0 := Lib.hid hAr0
      clear hm1 hbs hAr0
      go_wp2_with fail
      go_loopw [17] (fun v wk => ∃ j : Nat, A0 + p ≤ j ∧ j ≤ M ∧ v = .int .i64 (j : Int) ∧ Hid (Arr enc 2 wk g (mv P X R y (j - A0))) ∧ Hid (w.grownBy wk (some g))) (fun v _ => (intOf v).toNat)
      case atStart => exact ⟨M, by omega, Nat.le_refl _, by go_num, HAr0.out, hgr⟩
      case round =>
        clear HAr0 hAr hgr
        obtain ⟨j, hj1, hj2, rfl, hArk, hgk⟩ := hrel
        by_cases htp : A0 + p < j
        · obtain ⟨k, rfl⟩ : ∃ k, j = k + 1 := ⟨j - 1, by omega⟩
          obtain ⟨s, hks⟩ : ∃ s, k = A0 + s := ⟨k - A0, by omega⟩
          have hsX : s < X.length := by rw [← HXL.out]; omega
          obtain ⟨z, hzz⟩ : ∃ z, z = X[s] := ⟨_, rfl⟩
          have hzk := (mv_at' P X R y s hsX).1
          have hyk := (mv_at' P X R y s hsX).2
          have hdn := mv_down P X R y s hsX
          rw [← hzz] at hzk hdn
          rw [← HA0.out, ← hks] at hzk hyk hdn
          have es : k + 1 - A0 = s + 1 := by omega
          rw [es] at hArk
          have hdn := Lib.hid hdn
          have ll : k + 1 < (mv P X R y (s + 1)).length := (List.getElem?_eq_some_iff.1 hyk).1
          have lr : k < ((mv P X R y (s + 1)).set (k + 1) z).length := by rw [List.length_set]; omega
          have q1 : (0 : Int) ≤ (k : Int) + 1 := by omega
          have q2 : (k : Int) + 1 < (N : Int) := by omega
          have q3 : (0 : Int) ≤ (k : Int) := by omega
          have q4 : (k : Int) < (N : Int) := by omega
          have q5 : (A0 : Int) + (p : Int) < (k : Int) + 1 := by omega
          have hks1 : k ≤ A0 + s := by omega
          have hks2 : A0 + s ≤ k := by omega
          clear hzz es hks
          go_wp2_with fail
          refine wp_region_held_drew (S := fun _ => True) (by kernel_rfl) trivial (fun hHeld => ?_)
          refine take_at 0 113 (.slice (some ⟨g, 0, none⟩) N cap) rfl (by rfl) (by kernel_rfl) (by kernel_rfl) (by kernel_rfl) (fun _ _ _ h => h) (Or.inl ⟨by rfl, fun w' hSw => by go_simp⟩) (by assumption) ?_
          simp only [List.setIfInBounds_toArray, List.set_cons_zero, List.set_cons_succ]
          refine take_at 1 114 (.int .i64 ((k : Int) + 1)) rfl (by rfl) (by kernel_rfl) (by kernel_rfl) (by kernel_rfl) (fun _ _ _ h => h) (Or.inl ⟨by rfl, fun w' hSw => by go_simp⟩) (by assumption) ?_
          simp only [List.setIfInBounds_toArray, List.set_cons_zero, List.set_cons_succ]
          refine take_at 2 115 (.slice (some ⟨g, 0, none⟩) N cap) rfl (by rfl) (by kernel_rfl) (by kernel_rfl) (by kernel_rfl) (fun _ _ _ h => h) (Or.inl ⟨by rfl, fun w' hSw => by go_simp⟩) (by assumption) ?_
          simp only [List.setIfInBounds_toArray, List.set_cons_zero, List.set_cons_succ]
          refine take_at 3 116 (.int .i64 ((k : Int) + 1)) rfl (by rfl) (by kernel_rfl) (by kernel_rfl) (by kernel_rfl) (fun _ _ _ h => h) (Or.inl ⟨by rfl, fun w' hSw => by go_simp⟩) (by assumption) ?_
          simp only [List.setIfInBounds_toArray, List.set_cons_zero, List.set_cons_succ]
          refine take_at 4 117 (.int .i64 (k : Int)) rfl (by rfl) (by kernel_rfl) (by kernel_rfl) (by kernel_rfl) (fun _ _ _ h => h) (Or.inl ⟨by rfl, fun w' hSw => by go_simp <;> exact IntWalk.i64_in _ ⟨by omega, by omega⟩⟩) (by assumption) ?_
          simp only [List.setIfInBounds_toArray, List.set_cons_zero, List.set_cons_succ]
          refine take_at 5 118 (.slice (some ⟨g, 0, none⟩) N cap) rfl (by rfl) (by kernel_rfl) (by kernel_rfl) (by kernel_rfl) (fun _ _ _ h => h) (Or.inl ⟨by rfl, fun w' hSw => by go_simp⟩) (by assumption) ?_
          simp only [List.setIfInBounds_toArray, List.set_cons_zero, List.set_cons_succ]
          refine take_at 6 119 (.int .i64 ((k : Int) + 1)) rfl (by rfl) (by kernel_rfl) (by kernel_rfl) (by kernel_rfl) (fun _ _ _ h => h) (Or.inl ⟨by rfl, fun w' hSw => by go_simp⟩) (by assumption) ?_
          simp only [List.setIfInBounds_toArray, List.set_cons_zero, List.set_cons_succ]
          refine take_at 7 120 (.int .i64 (k : Int)) rfl (by rfl) (by kernel_rfl) (by kernel_rfl) (by kernel_rfl) (fun _ _ _ h => h) (Or.inl ⟨by rfl, fun w' hSw => by go_simp <;> exact IntWalk.i64_in _ ⟨by omega, by omega⟩⟩) (by assumption) ?_
          simp only [List.setIfInBounds_toArray, List.set_cons_zero, List.set_cons_succ]
          refine take_at 8 121 (.pointer (some ⟨g, k * 2, none⟩)) rfl (by rfl) (by kernel_rfl) (by kernel_rfl) (by kernel_rfl) (fun _ _ _ h => h) (Or.inl ⟨by rfl, fun w' hSw => by go_simp⟩) (by assumption) ?_
          simp only [List.setIfInBounds_toArray, List.set_cons_zero, List.set_cons_succ]
          refine take_at 10 123 (.slice (some ⟨g, 0, none⟩) N cap) rfl (by rfl) (by kernel_rfl) (by kernel_rfl) (by kernel_rfl) (fun _ _ _ h => h) (Or.inl ⟨by rfl, fun w' hSw => by go_simp⟩) (by assumption) ?_
          simp only [List.setIfInBounds_toArray, List.set_cons_zero, List.set_cons_succ]
          refine take_at 11 124 (.int .i64 ((k : Int) + 1)) rfl (by rfl) (by kernel_rfl) (by kernel_rfl) (by kernel_rfl) (fun _ _ _ h => h) (Or.inl ⟨by rfl, fun w' hSw => by go_simp⟩) (by assumption) ?_
          simp only [List.setIfInBounds_toArray, List.set_cons_zero, List.set_cons_succ]
          refine take_at 12 125 (.pointer (some ⟨g, (k + 1) * 2, none⟩)) rfl (by rfl) (by kernel_rfl) (by kernel_rfl) (by kernel_rfl) (fun _ _ _ h => h) (Or.inl ⟨by rfl, fun w' hSw => by go_simp⟩) (by assumption) ?_
          simp only [List.setIfInBounds_toArray, List.set_cons_zero, List.set_cons_succ]
          have HAd := Lib.hid (Hid.out hArk).drew
          have HGd := Lib.hid (grown_trans (Hid.out hgk) (grown_drew _ (some g)))
          generalize wr.drew = X1 at *
          have H1 := Lib.hid (HAd.out.store enc_len ll z)
          have H2 := Lib.hid (show Arr enc 2 ((X1.setCells g ((k + 1) * 2) (enc z)).setCells g (k * 2) (enc y)) g (mv P X R y (k - A0)) by rw [show k - A0 = s by omega, ← hdn.out]; exact H1.out.store enc_len lr y)
          have G2 := Lib.hid (grown_trans (grown_trans HGd.out (grown_setCells X1 g ((k + 1) * 2) (enc z))) (grown_setCells _ g (k * 2) (enc y)))
          have HX := Lib.hid (HAd.out.range hyk)
          have HZ := Lib.hid (HAd.out.range hzk)
          clear hArk hgk
          refine wpAnyH_ready (rs := [9, 13]) (by kernel_rfl) (by simp) ?_
          refine all_at 9 122 (.agg (enc z).toArray) X1 rfl (by rfl) (by rfl) (load_run 41 (.tmp 121) rfl g (k * 2) rfl (enc z) _ HZ.out Tryd.underlying41 rfl (by rw [enc_len]; exact infoE)) trivial (fun hHeld => ?_) ?_
          · simp only [List.setIfInBounds_toArray, List.set_cons_zero, List.set_cons_succ]
            refine wpAnyH_ready (rs := [13]) (by kernel_rfl) (by simp) ?_
            refine all_at 13 126 (.agg (enc y).toArray) X1 rfl (by rfl) (by rfl) (load_run 41 (.tmp 125) rfl g ((k + 1) * 2) rfl (enc y) _ HX.out Tryd.underlying41 rfl (by rw [enc_len]; exact infoE)) trivial (fun hHeld => ?_) all_nil
            simp only [List.setIfInBounds_toArray, List.set_cons_zero, List.set_cons_succ]
            refine take_at 14 127 (.pointer (some ⟨g, (k + 1) * 2, none⟩)) rfl (by rfl) (by kernel_rfl) (by kernel_rfl) (by kernel_rfl) (fun _ _ _ h => h) (Or.inl ⟨by rfl, fun w' hSw => by go_simp⟩) (by assumption) ?_
            simp only [List.setIfInBounds_toArray, List.set_cons_zero, List.set_cons_succ]
            refine wpAnyH_ready (rs := [15]) (by kernel_rfl) (by simp) ?_
            refine all_wp 15 _ (X1.setCells g ((k + 1) * 2) (enc z)) rfl (by rfl) (fun K' hk => wp_store_mid 41 (.tmp 127) (.tmp 122) rfl g ((k + 1) * 2) (enc z).toArray rfl rfl (HAd.out.there enc_len ll) (by rw [List.size_toArray, enc_len]; exact infoE) (all_oneCell_toArray (enc_one _)) (by simpa only [List.toList_toArray] using hk)) trivial (fun hHeld => ?_) all_nil
            simp only [Act.put]
            refine take_at 16 128 (.pointer (some ⟨g, k * 2, none⟩)) rfl (by rfl) (by kernel_rfl) (by kernel_rfl) (by kernel_rfl) (fun _ _ _ h => h) (Or.inl ⟨by rfl, fun w' hSw => by go_simp⟩) (by assumption) ?_
            simp only [List.setIfInBounds_toArray, List.set_cons_zero, List.set_cons_succ]
            refine wpAnyH_ready (rs := [17]) (by kernel_rfl) (by simp) ?_
            refine all_wp 17 _ ((X1.setCells g ((k + 1) * 2) (enc z)).setCells g (k * 2) (enc y)) rfl (by rfl) (fun K' hk => wp_store_mid 41 (.tmp 128) (.tmp 126) rfl g (k * 2) (enc y).toArray rfl rfl (H1.out.there enc_len lr) (by rw [List.size_toArray, enc_len]; exact infoE) (all_oneCell_toArray (enc_one _)) (by simpa only [List.toList_toArray] using hk)) trivial (fun hHeld => ?_) all_nil
            simp only [Act.put]
            refine wpAnyH_done (by kernel_rfl) ?_ _
            generalize ((X1.setCells g ((k + 1) * 2) (enc z)).setCells g (k * 2) (enc y)) = Z at *
            clear H1 HAd HGd HX HZ
            go_wp2
            refine ⟨⟨_, _, _, _, _, _, _, _, _, _, _, _, _, _, _, _, _, _, _, _, _, _, ⟨k, by omega, by omega, ?_, H2.out, G2.out⟩, rfl⟩, by simp [intOf] <;> omega⟩
            go_num
          refine all_at 13 126 (.agg (enc y).toArray) X1 rfl (by rfl) (by rfl) (load_run 41 (.tmp 125) rfl g ((k + 1) * 2) rfl (enc y) _ HX.out Tryd.underlying41 rfl (by rw [enc_len]; exact infoE)) trivial (fun hHeld => ?_) all_nil
          simp only [List.setIfInBounds_toArray, List.set_cons_zero, List.set_cons_succ]
          refine wpAnyH_ready (rs := [9]) (by kernel_rfl) (by simp) ?_
          refine all_at 9 122 (.agg (enc z).toArray) X1 rfl (by rfl) (by rfl) (load_run 41 (.tmp 121) rfl g (k * 2) rfl (enc z) _ HZ.out Tryd.underlying41 rfl (by rw [enc_len]; exact infoE)) trivial (fun hHeld => ?_) all_nil
          simp only [List.setIfInBounds_toArray, List.set_cons_zero, List.set_cons_succ]
          refine take_at 14 127 (.pointer (some ⟨g, (k + 1) * 2, none⟩)) rfl (by rfl) (by kernel_rfl) (by kernel_rfl) (by kernel_rfl) (fun _ _ _ h => h) (Or.inl ⟨by rfl, fun w' hSw => by go_simp⟩) (by assumption) ?_
          simp only [List.setIfInBounds_toArray, List.set_cons_zero, List.set_cons_succ]
          refine wpAnyH_ready (rs := [15]) (by kernel_rfl) (by simp) ?_
          refine all_wp 15 _ (X1.setCells g ((k + 1) * 2) (enc z)) rfl (by rfl) (fun K' hk => wp_store_mid 41 (.tmp 127) (.tmp 122) rfl g ((k + 1) * 2) (enc z).toArray rfl rfl (HAd.out.there enc_len ll) (by rw [List.size_toArray, enc_len]; exact infoE) (all_oneCell_toArray (enc_one _)) (by simpa only [List.toList_toArray] using hk)) trivial (fun hHeld => ?_) all_nil
          simp only [Act.put]
          refine take_at 16 128 (.pointer (some ⟨g, k * 2, none⟩)) rfl (by rfl) (by kernel_rfl) (by kernel_rfl) (by kernel_rfl) (fun _ _ _ h => h) (Or.inl ⟨by rfl, fun w' hSw => by go_simp⟩) (by assumption) ?_
          simp only [List.setIfInBounds_toArray, List.set_cons_zero, List.set_cons_succ]
          refine wpAnyH_ready (rs := [17]) (by kernel_rfl) (by simp) ?_
          refine all_wp 17 _ ((X1.setCells g ((k + 1) * 2) (enc z)).setCells g (k * 2) (enc y)) rfl (by rfl) (fun K' hk => wp_store_mid 41 (.tmp 128) (.tmp 126) rfl g (k * 2) (enc y).toArray rfl rfl (H1.out.there enc_len lr) (by rw [List.size_toArray, enc_len]; exact infoE) (all_oneCell_toArray (enc_one _)) (by simpa only [List.toList_toArray] using hk)) trivial (fun hHeld => ?_) all_nil
          simp only [Act.put]
          refine wpAnyH_done (by kernel_rfl) ?_ _
          generalize ((X1.setCells g ((k + 1) * 2) (enc z)).setCells g (k * 2) (enc y)) = Z at *
          clear H1 HAd HGd HX HZ
          go_wp2
          refine ⟨⟨_, _, _, _, _, _, _, _, _, _, _, _, _, _, _, _, _, _, _, _, _, _, ⟨k, by omega, by omega, ?_, H2.out, G2.out⟩, rfl⟩, by simp [intOf] <;> omega⟩
          go_num
        · obtain rfl : j = A0 + p := by omega
          have hfin : Merged P X [y] R g w wr := by
            refine ⟨X.take p ++ y :: X.drop p, ?_, ?_, HM.out.1, HM.out.2, Hid.out hgk⟩
            · have e : P ++ ((X.take p ++ y :: X.drop p) ++ R) = mv P X R y (A0 + p - A0) := by rw [show A0 + p - A0 = p by omega]; simp [mv]
              rw [e]; exact Hid.out hArk
            · simp only [List.length_append, List.length_cons, List.length_take, List.length_drop, List.length_nil]; omega
          have HF := Lib.hid hfin
          clear hfin hArk hgk
          go_wp2
          exact ⟨rfl, _, results_none rfl _ _ _, rfl, HF.out⟩
end Go.Proofs.YtjkapmghifglcaaDoor.Sb
/- What a merge of two sorted stretches by halves comes to: the search's result, the three calls behind it. -/
namespace Go.Proofs.YtjkapmghifglcaaDoor.Sb
set_option linter.unusedVariables false
open Go.ChangeShapes Go.WideShapes Go.ChangeAt Go.RowKit
open Ar Rg St
theorem sym_pure {X Y : List Ch} {i j : Nat} (hX : Srt key lt X) (hY : Srt key lt Y)
    (h1 : i = 0 ∨ j = Y.length ∨ ∃ y x, Y[j]? = some y ∧ X[i - 1]? = some x ∧ lt (key y) (key x) = false)
    (h2 : j = 0 ∨ i = X.length ∨ ∃ y x, Y[j - 1]? = some y ∧ X[i]? = some x ∧ lt (key y) (key x) = true) :
    (∀ x ∈ X.take i, ∀ y ∈ Y.drop j, lt (key y) (key x) = false) ∧ (∀ y ∈ Y.take j, ∀ x ∈ X.drop i, lt (key y) (key x) = true) := by
  constructor
  · rcases h1 with rfl | rfl | ⟨y, x, hy, hx, h⟩
    · simp
    · simp
    · intro x' hx' y' hy'
      exact drop_ge hY (.inr ⟨y, hy, take_ge hX (.inr ⟨x, hx, h⟩) x' hx'⟩) y' hy'
  · rcases h2 with rfl | rfl | ⟨y, x, hy, hx, h⟩
    · simp
    · simp
    · intro y' hy' x' hx'
      exact take_lt hY (.inr ⟨y, hy, drop_lt hX (.inr ⟨x, hx, h⟩) x' hx'⟩) y' hy'
def GC (D : List Ch) (p c : Nat) : Bool := match D[p - c]?, D[c]? with | some u, some z => lt (key u) (key z) | _, _ => false
theorem GC_at {D : List Ch} {p c : Nat} {u z : Ch} (h1 : D[p - c]? = some u) (h2 : D[c]? = some z) : GC D p c = lt (key u) (key z) := by
  unfold GC; rw [h1, h2]
theorem get_X (P X Y R : List Ch) (i : Nat) (h : i < X.length) : (P ++ (X ++ (Y ++ R)))[P.length + i]? = some X[i] := by
  rw [List.getElem?_append_right (by omega), show P.length + i - P.length = i by omega, List.getElem?_append_left h, List.getElem?_eq_getElem h]
theorem get_Y (P X Y R : List Ch) (i : Nat) (h : i < Y.length) : (P ++ (X ++ (Y ++ R)))[P.length + X.length + i]? = some Y[i] := by
  rw [List.getElem?_append_right (by omega), List.getElem?_append_right (by omega), show P.length + X.length + i - P.length - X.length = i by omega, List.getElem?_append_left h, List.getElem?_eq_getElem h]
structure Four (n : Nat) (P X1 X2 Y1 Y2 R : List Ch) (N A S M E B Q : Nat) : Prop where
  hN : (P ++ ((X1 ++ X2) ++ ((Y1 ++ Y2) ++ R))).length = N
  hA : P.length = A
  hS : A + X1.length = S
  hM : S + X2.length = M
  hE : M + Y1.length = E
  hB : E + Y2.length = B
  hQ : S + Y1.length = Q
  hAQ : A < Q
  hQB : Q < B
  hn : B - A ≤ n
  sX : Srt key lt (X1 ++ X2)
  sY : Srt key lt (Y1 ++ Y2)
  h12 : ∀ x ∈ X1, ∀ y ∈ Y2, lt (key y) (key x) = false
  h21 : ∀ y ∈ Y1, ∀ x ∈ X2, lt (key y) (key x) = true
theorem four_make {n : Nat} {P X Y R D : List Ch} {N A M B Q S0 R0 s : Nat} (hD : D = P ++ (X ++ (Y ++ R))) (hN : N = D.length) (hA : A = P.length) (hM : M = A + X.length) (hB : B = M + Y.length) (q1 : 2 * Q ≤ A + B) (q2 : A + B < 2 * Q + 2) (hX : 1 < X.length) (hY : 1 < Y.length) (hn : B - A ≤ n)
    (hc : (Q < M ∧ S0 = Q + M - B ∧ R0 = Q) ∨ (M ≤ Q ∧ S0 = A ∧ R0 = M)) (sX : Srt key lt X) (sY : Srt key lt Y) (h : Bs (GC D (Q + M - 1)) S0 R0 s s) :
    ∃ X1 X2 Y1 Y2, X = X1 ++ X2 ∧ Y = Y1 ++ Y2 ∧ Four n P X1 X2 Y1 Y2 R N A s M (Q + M - s) B Q := by
  obtain ⟨b1, _, b2, b3, b4⟩ := h
  have c1 : A ≤ s := by omega
  have c2 : s ≤ M := by omega
  have c3 : s ≤ Q := by omega
  have c4 : Q - s ≤ Y.length := by omega
  have hp := sym_pure (i := s - A) (j := Q - s) sX sY (by
    rcases b3 with b3 | b3
    · rcases hc with hc | hc
      · right; left; omega
      · left; omega
    · by_cases e1 : s - A = 0
      · exact .inl e1
      by_cases e2 : Q - s = Y.length
      · exact .inr (.inl e2)
      right; right
      have g1 := get_Y P X Y R (Q - s) (by omega)
      have g2 := get_X P X Y R (s - A - 1) (by omega)
      rw [← hD, ← hA] at g1 g2
      rw [show A + X.length + (Q - s) = Q + M - 1 - (s - 1) by omega] at g1
      rw [show A + (s - A - 1) = s - 1 by omega] at g2
      rw [GC_at g1 g2] at b3
      exact ⟨_, _, List.getElem?_eq_getElem _, List.getElem?_eq_getElem _, b3⟩) (by
    rcases b4 with b4 | b4
    · rcases hc with hc | hc
      · left; omega
      · right; left; omega
    · by_cases e1 : Q - s = 0
      · exact .inl e1
      by_cases e2 : s - A = X.length
      · exact .inr (.inl e2)
      right; right
      have g1 := get_Y P X Y R (Q - s - 1) (by omega)
      have g2 := get_X P X Y R (s - A) (by omega)
      rw [← hD, ← hA] at g1 g2
      rw [show A + X.length + (Q - s - 1) = Q + M - 1 - s by omega] at g1
      rw [show A + (s - A) = s by omega] at g2
      rw [GC_at g1 g2] at b4
      exact ⟨_, _, List.getElem?_eq_getElem _, List.getElem?_eq_getElem _, b4⟩)
  refine ⟨X.take (s - A), X.drop (s - A), Y.take (Q - s), Y.drop (Q - s), (List.take_append_drop _ _).symm, (List.take_append_drop _ _).symm, ?_, hA.symm, ?_, ?_, ?_, ?_, ?_, by omega, by omega, hn, ?_, ?_, hp.1, hp.2⟩
  · rw [List.take_append_drop, List.take_append_drop, ← hD, hN]
  · rw [List.length_take]; omega
  · rw [List.length_drop]; omega
  · rw [List.length_take]; omega
  · rw [List.length_drop]; omega
  · rw [List.length_take]; omega
  · rw [List.take_append_drop]; exact sX
  · rw [List.take_append_drop]; exact sY
def SymOK (n : Nat) : Prop := ∀ (P X Y R D : List Ch), D = P ++ (X ++ (Y ++ R)) → 0 < X.length → 0 < Y.length → X.length + Y.length < n → Srt key lt X → Srt key lt Y → ∀ (g cap N : Nat), N = D.length → N ≤ cap → N ≤ 281474976710656 → ∀ (w : World), Arr enc 2 w g D → ∀ (a m b : Int), a = (P.length : Int) → m = (P.length : Int) + X.length → b = (P.length : Int) + X.length + Y.length →
  Calls Tryd.prog 101 #[.slice (some ⟨g, 0, none⟩) N cap, .int .i64 a, .int .i64 m, .int .i64 b, CMP] w fun e w' => e = .returned (.tuple #[]) ∧ Merged P X Y R g w w'
def S1 (P X1 X2 Y1 Y2 R : List Ch) (g : Nat) (w wr : World) : Prop := Arr enc 2 wr g (P ++ (X1 ++ (Y1 ++ (X2 ++ (Y2 ++ R))))) ∧ w.grownBy wr (some g)
def S2 (P X1 X2 Y1 Y2 R : List Ch) (g : Nat) (w wr : World) : Prop := ∃ Z, Arr enc 2 wr g (P ++ (Z ++ (X2 ++ (Y2 ++ R)))) ∧ Z.length = X1.length + Y1.length ∧ Srt key lt Z ∧ Sm key (X1 ++ Y1) Z ∧ w.grownBy wr (some g)
section
variable {n : Nat} {P X1 X2 Y1 Y2 R : List Ch} {N A S M E B Q g : Nat} {w wr : World}
theorem Four.lenN (F : Four n P X1 X2 Y1 Y2 R N A S M E B Q) : P.length + X1.length + X2.length + Y1.length + Y2.length + R.length = N := by
  have := F.hN
  simp only [List.length_append] at this
  omega
theorem four_rot (F : Four n P X1 X2 Y1 Y2 R N A S M E B Q) (cap : Nat) (hL : N ≤ cap) (hm : N ≤ 281474976710656) (V : Value) (hA : Arr enc 2 wr g (P ++ ((X1 ++ X2) ++ ((Y1 ++ Y2) ++ R)))) (hg : w.grownBy wr (some g)) (h1 : S < M) (h2 : M < E) :
    Calls Tryd.prog 106 #[.slice (some ⟨g, 0, none⟩) N cap, .int .i64 S, .int .i64 M, .int .i64 E, V] wr fun e w' => e = .returned (.tuple #[]) ∧ S1 P X1 X2 Y1 Y2 R g w w' := by
  have := F.hA; have := F.hS; have := F.hM; have := F.hE
  refine (rotate_any (P ++ X1) X2 Y1 (Y2 ++ R) _ (by simp) (by omega) (by omega) g cap N F.hN.symm V hL hm wr hA _ _ _ ?_ ?_ ?_).mono fun e w' h => ⟨h.1, ?_, grown_trans hg h.2.1⟩
  · rw [List.length_append]; omega
  · rw [List.length_append]; omega
  · rw [List.length_append]; omega
  · have e : P ++ (X1 ++ (Y1 ++ (X2 ++ (Y2 ++ R)))) = P ++ X1 ++ (Y1 ++ (X2 ++ (Y2 ++ R))) := by simp only [List.append_assoc]
    rw [e]
    exact h.2.2
theorem four_rot' (F : Four n P X1 X2 Y1 Y2 R N A S M E B Q) (hA : Arr enc 2 wr g (P ++ ((X1 ++ X2) ++ ((Y1 ++ Y2) ++ R)))) (hg : w.grownBy wr (some g)) (h : ¬ (S < M ∧ M < E)) : S1 P X1 X2 Y1 Y2 R g w wr := by
  have := F.hM; have := F.hE
  refine ⟨?_, hg⟩
  by_cases h1 : S < M
  · have : Y1 = [] := List.eq_nil_of_length_eq_zero (by omega)
    subst this
    simpa using hA
  · have : X2 = [] := List.eq_nil_of_length_eq_zero (by omega)
    subst this
    simpa using hA
theorem four_one (IH : SymOK n) (F : Four n P X1 X2 Y1 Y2 R N A S M E B Q) (cap : Nat) (hL : N ≤ cap) (hm : N ≤ 281474976710656) (h : S1 P X1 X2 Y1 Y2 R g w wr) (h1 : A < S) (h2 : S < Q) :
    Calls Tryd.prog 101 #[.slice (some ⟨g, 0, none⟩) N cap, .int .i64 A, .int .i64 S, .int .i64 Q, CMP] wr fun e w' => e = .returned (.tuple #[]) ∧ S2 P X1 X2 Y1 Y2 R g w w' := by
  obtain ⟨hA, hg⟩ := h
  have := F.hA; have := F.hS; have := F.hM; have := F.hE; have := F.hB; have := F.hQ; have := F.hQB; have := F.hn; have hl := F.lenN
  refine (IH P X1 Y1 (X2 ++ (Y2 ++ R)) _ rfl (by omega) (by omega) (by omega) (Srt.append.1 F.sX).1 (Srt.append.1 F.sY).1 g cap N ?_ hL hm wr hA _ _ _ ?_ ?_ ?_).mono fun e w' h => ⟨h.1, ?_⟩
  · simp only [List.length_append]; omega
  · omega
  · omega
  · omega
  · obtain ⟨Z, z1, z2, z3, z4, z5⟩ := h.2
    exact ⟨Z, z1, z2, z3, z4, grown_trans hg z5⟩
theorem four_one' (F : Four n P X1 X2 Y1 Y2 R N A S M E B Q) (h : S1 P X1 X2 Y1 Y2 R g w wr) (hc : ¬ (A < S ∧ S < Q)) : S2 P X1 X2 Y1 Y2 R g w wr := by
  obtain ⟨hA, hg⟩ := h
  have := F.hS; have := F.hQ
  refine ⟨X1 ++ Y1, by rw [List.append_assoc]; exact hA, by rw [List.length_append], ?_, Sm.refl _, hg⟩
  by_cases h1 : A < S
  · have : Y1 = [] := List.eq_nil_of_length_eq_zero (by omega)
    subst this
    simpa using (Srt.append.1 F.sX).1
  · have : X1 = [] := List.eq_nil_of_length_eq_zero (by omega)
    subst this
    simpa using (Srt.append.1 F.sY).1
theorem four_end (F : Four n P X1 X2 Y1 Y2 R N A S M E B Q) {Z Z2 : List Ch} (hA : Arr enc 2 wr g (P ++ (Z ++ (Z2 ++ R)))) (z2 : Z.length = X1.length + Y1.length) (z3 : Srt key lt Z) (z4 : Sm key (X1 ++ Y1) Z) (y2 : Z2.length = X2.length + Y2.length) (y3 : Srt key lt Z2) (y4 : Sm key (X2 ++ Y2) Z2) (hg : w.grownBy wr (some g)) : Merged P (X1 ++ X2) (Y1 ++ Y2) R g w wr := by
  have hm := merged O F.sX F.sY F.h12 F.h21 z4 z3 y4 y3
  refine ⟨Z ++ Z2, by rw [List.append_assoc]; exact hA, ?_, hm.2, hm.1, hg⟩
  simp only [List.length_append]; omega
theorem four_two (IH : SymOK n) (F : Four n P X1 X2 Y1 Y2 R N A S M E B Q) (cap : Nat) (hL : N ≤ cap) (hm : N ≤ 281474976710656) (h : S2 P X1 X2 Y1 Y2 R g w wr) (h1 : Q < E) (h2 : E < B) :
    Calls Tryd.prog 101 #[.slice (some ⟨g, 0, none⟩) N cap, .int .i64 Q, .int .i64 E, .int .i64 B, CMP] wr fun e w' => e = .returned (.tuple #[]) ∧ Merged P (X1 ++ X2) (Y1 ++ Y2) R g w w' := by
  obtain ⟨Z, z1, z2, z3, z4, z5⟩ := h
  have := F.hA; have := F.hS; have := F.hM; have := F.hE; have := F.hB; have := F.hQ; have := F.hAQ; have := F.hn; have hl := F.lenN
  refine (IH (P ++ Z) X2 Y2 R _ (by simp only [List.append_assoc]) (by omega) (by omega) (by omega) (Srt.append.1 F.sX).2.1 (Srt.append.1 F.sY).2.1 g cap N ?_ hL hm wr z1 _ _ _ ?_ ?_ ?_).mono fun e w' h => ⟨h.1, ?_⟩
  · simp only [List.length_append]; omega
  · rw [List.length_append]; omega
  · rw [List.length_append]; omega
  · rw [List.length_append]; omega
  · obtain ⟨Z2, y1, y2, y3, y4, y5⟩ := h.2
    rw [List.append_assoc] at y1
    exact four_end F y1 z2 z3 z4 y2 y3 y4 (grown_trans z5 y5)
theorem four_two' (F : Four n P X1 X2 Y1 Y2 R N A S M E B Q) (h : S2 P X1 X2 Y1 Y2 R g w wr) (hc : ¬ (Q < E ∧ E < B)) : Merged P (X1 ++ X2) (Y1 ++ Y2) R g w wr := by
  obtain ⟨Z, z1, z2, z3, z4, z5⟩ := h
  have := F.hS; have := F.hM; have := F.hE; have := F.hB; have := F.hQ
  refine four_end F (Z2 := X2 ++ Y2) (by rw [List.append_assoc]; exact z1) z2 z3 z4 (by rw [List.length_append]) ?_ (Sm.refl _) z5
  by_cases h1 : Q < E
  · have : Y2 = [] := List.eq_nil_of_length_eq_zero (by omega)
    subst this
    simpa using (Srt.append.1 F.sX).2.1
  · have : X2 = [] := List.eq_nil_of_length_eq_zero (by omega)
    subst this
    simpa using (Srt.append.1 F.sY).2.1
end
end Go.Proofs.YtjkapmghifglcaaDoor.Sb
/- Contract of package slices' symMergeCmpFunc at changes: both stretches have more than one element, the second one begins behind the middle. -/
namespace Go.Proofs.YtjkapmghifglcaaDoor.Sb
set_option linter.unusedVariables false
open Go.ChangeShapes Go.WideShapes Go.ChangeAt Go.RowKit
open Ar Rg St
set_option maxRecDepth 100000 in
set_option maxHeartbeats 2000000 in
theorem sym_gt (n : Nat) (IH : SymOK n) (P X Y R D : List Ch) (hD : D = P ++ (X ++ (Y ++ R))) (hX : 1 < X.length) (hY : 1 < Y.length) (hn : X.length + Y.length ≤ n) (sX : Srt key lt X) (sY : Srt key lt Y) (g cap N : Nat) (hN : N = D.length) (hL : N ≤ cap) (hm : N ≤ 281474976710656) (w : World) (hA : Arr enc 2 w g D) (a m b : Int) (ha : a = (P.length : Int)) (hmm : m = (P.length : Int) + X.length) (hb : b = (P.length : Int) + X.length + Y.length) (hw : (a + b) / 2 < m) :
    Calls Tryd.prog 101 #[.slice (some ⟨g, 0, none⟩) N cap, .int .i64 a, .int .i64 m, .int .i64 b, CMP] w fun e w' => e = .returned (.tuple #[]) ∧ Merged P X Y R g w w' := by
  obtain ⟨A0, hA0⟩ : ∃ M : Nat, M = P.length := ⟨_, rfl⟩
  obtain ⟨M, hM⟩ : ∃ M : Nat, M = A0 + X.length := ⟨_, rfl⟩
  obtain ⟨B, hB⟩ : ∃ B : Nat, B = M + Y.length := ⟨_, rfl⟩
  obtain ⟨Q, hQ⟩ : ∃ Q : Nat, ((A0 : Int) + (B : Int)) / 2 = (Q : Int) := ⟨(A0 + B) / 2, by omega⟩
  have q1 : 2 * Q ≤ A0 + B := by omega
  have q2 : A0 + B < 2 * Q + 2 := by omega
  have hlen : B ≤ N := by rw [hN, hD, hB, hM, hA0]; simp only [List.length_append]; omega
  have b1 : A0 + 1 < M := by omega
  have b2 : M + 1 < B := by omega
  have hn2 : B - A0 ≤ n := by omega
  have em : m = (M : Int) := by omega
  have eb : b = (B : Int) := by omega
  rw [← hA0] at ha hmm hb
  rw [ha, eb, hQ, em] at hw
  obtain ⟨S0, hS0⟩ : ∃ S0 : Nat, (Q : Int) + (M : Int) - (B : Int) = (S0 : Int) := ⟨Q + M - B, by omega⟩
  have HQ1 := Lib.hid q1
  have HQ2 := Lib.hid q2
  have HA := Lib.hid hA
  have HD := Lib.hid hD
  have HN := Lib.hid hN
  have HX := Lib.hid sX
  have HY := Lib.hid sY
  have HA0 := Lib.hid hA0
  have HM := Lib.hid hM
  have HB := Lib.hid hB
  have HXL := Lib.hid hX
  have HYL := Lib.hid hY
  clear hA hD hN sX sY hA0 hM hB hX hY hmm hb hn
  subst ha em eb
  have hq1 : (((M : Int) - A0) == 1) = false := by rw [beq_eq_false_iff_ne]; omega
  have hq2 : (((B : Int) - M) == 1) = false := by rw [beq_eq_false_iff_ne]; omega
  unfold CMP
  go_enter Tryd.func101, Tryd.ntmps101
  go_wp2_with fail
  go_loopw [20, 21] (fun v u wr => ∃ lo hi : Nat, v = .int .i64 lo ∧ u = .int .i64 hi ∧ Hid (Bs (GC D (Q + M - 1)) S0 Q lo hi) ∧ Hid (Arr enc 2 wr g D) ∧ Hid (w.grownBy wr (some g))) (fun v u _ => (intOf u).toNat - (intOf v).toNat)
  case atStart => exact ⟨S0, Q, by go_num, by go_num, Bs.start _ (by omega), HA.out, grown_refl _ _⟩
  case round =>
    obtain ⟨lo, hi, rfl, rfl, hbs, hAr, hgr⟩ := hrel
    have hbd := Hid.out hbs
    obtain ⟨n1, n2, n3, _⟩ := hbd
    by_cases hlt : lo < hi
    · obtain ⟨h, hh⟩ : ∃ h : Nat, ((lo : Int) + (hi : Int)) / 2 = (h : Int) := ⟨(lo + hi) / 2, by omega⟩
      have n4 : lo ≤ h := by omega
      have n5 : h < hi := by omega
      have n6 : (0 : Int) ≤ (h : Int) := by omega
      have n7 : (h : Int) < (N : Int) := by omega
      obtain ⟨q, hq⟩ : ∃ q : Nat, (Q : Int) + (M : Int) - 1 - (h : Int) = (q : Int) := ⟨Q + M - 1 - h, by omega⟩
      have n8 : (0 : Int) ≤ (q : Int) := by omega
      have n9 : (q : Int) < (N : Int) := by omega
      obtain ⟨z, hz⟩ : ∃ z, D[h]? = some z := ⟨_, List.getElem?_eq_getElem (by rw [← HN.out]; omega)⟩
      obtain ⟨u, hu⟩ : ∃ z, D[q]? = some z := ⟨_, List.getElem?_eq_getElem (by rw [← HN.out]; omega)⟩
      obtain ⟨c, hcf⟩ : ∃ c, cf u z = c := ⟨_, rfl⟩
      have hcl := cf_lt u z
      rw [hcf] at hcl
      have hgc : GC D (Q + M - 1) h = lt (key u) (key z) := GC_at (by rw [show Q + M - 1 - h = q by omega]; exact hu) hz
      by_cases hb : lt (key u) (key z) = true
      · have hc0 : c < 0 := hcl.2 hb
        have HDN := Lib.hid ((Hid.out hbs).down n4 n5 (by rw [hgc, hb]))
        clear hcl hgc
        go_wp2_with fail
        refine wp_region_held_drew (S := fun w' => Arr enc 2 w' g D ∧ w.grownBy w' (some g)) (by kernel_rfl) ⟨(Hid.out hAr).drew, grown_trans (Hid.out hgr) (grown_drew _ _)⟩ (fun hHeld => ?_)
        refine take_at 0 158 (.func (.func 56) #[] #[]) rfl (by rfl) (by kernel_rfl) (by kernel_rfl) (by kernel_rfl) (fun _ _ _ h => h) (Or.inl ⟨by rfl, fun w' hSw => by go_simp⟩) (by assumption) ?_
        simp only [List.setIfInBounds_toArray, List.set_cons_zero, List.set_cons_succ]
        refine take_at 1 159 (.slice (some ⟨g, 0, none⟩) N cap) rfl (by rfl) (by kernel_rfl) (by kernel_rfl) (by kernel_rfl) (fun _ _ _ h => h) (Or.inl ⟨by rfl, fun w' hSw => by go_simp⟩) (by assumption) ?_
        simp only [List.setIfInBounds_toArray, List.set_cons_zero, List.set_cons_succ]
        refine take_at 2 160 (.int .i64 ((Q : Int) + (M : Int) - 1)) rfl (by rfl) (by kernel_rfl) (by kernel_rfl) (by kernel_rfl) (fun _ _ _ h => h) (Or.inl ⟨by rfl, fun w' hSw => by go_simp⟩) (by assumption) ?_
        simp only [List.setIfInBounds_toArray, List.set_cons_zero, List.set_cons_succ]
        refine take_at 3 161 (.int .i64 h) rfl (by rfl) (by kernel_rfl) (by kernel_rfl) (by kernel_rfl) (fun _ _ _ h => h) (Or.inl ⟨by rfl, fun w' hSw => by go_simp⟩) (by assumption) ?_
        simp only [List.setIfInBounds_toArray, List.set_cons_zero, List.set_cons_succ]
        refine take_at 4 162 (.int .i64 q) rfl (by rfl) (by kernel_rfl) (by kernel_rfl) (by kernel_rfl) (fun _ _ _ h => h) (Or.inl ⟨by rfl, fun w' hSw => by go_simp <;> exact IntWalk.i64_in _ ⟨by omega, by omega⟩⟩) (by assumption) ?_
        simp only [List.setIfInBounds_toArray, List.set_cons_zero, List.set_cons_succ]
        refine take_at 5 163 (.pointer (some ⟨g, q * 2, none⟩)) rfl (by rfl) (by kernel_rfl) (by kernel_rfl) (by kernel_rfl) (fun _ _ _ h => h) (Or.inl ⟨by rfl, fun w' hSw => by go_simp⟩) (by assumption) ?_
        simp only [List.setIfInBounds_toArray, List.set_cons_zero, List.set_cons_succ]
        refine take_at 6 164 (.agg (enc u).toArray) rfl (by rfl) (by kernel_rfl) (by kernel_rfl) (by kernel_rfl) (fun _ _ _ h => h) (yieldsIf_load_mid (by rfl) _ _ rfl _ _ rfl (enc u) _ (fun w' hSw => hSw.1.range hu) Tryd.underlying41 rfl (by rw [enc_len]; exact infoE)) (by assumption) ?_
        simp only [List.setIfInBounds_toArray, List.set_cons_zero, List.set_cons_succ]
        refine take_at 7 165 (.slice (some ⟨g, 0, none⟩) N cap) rfl (by rfl) (by kernel_rfl) (by kernel_rfl) (by kernel_rfl) (fun _ _ _ h => h) (Or.inl ⟨by rfl, fun w' hSw => by go_simp⟩) (by assumption) ?_
        simp only [List.setIfInBounds_toArray, List.set_cons_zero, List.set_cons_succ]
        refine take_at 8 166 (.int .i64 h) rfl (by rfl) (by kernel_rfl) (by kernel_rfl) (by kernel_rfl) (fun _ _ _ h => h) (Or.inl ⟨by rfl, fun w' hSw => by go_simp⟩) (by assumption) ?_
        simp only [List.setIfInBounds_toArray, List.set_cons_zero, List.set_cons_succ]
        refine take_at 9 167 (.pointer (some ⟨g, h * 2, none⟩)) rfl (by rfl) (by kernel_rfl) (by kernel_rfl) (by kernel_rfl) (fun _ _ _ h => h) (Or.inl ⟨by rfl, fun w' hSw => by go_simp⟩) (by assumption) ?_
        simp only [List.setIfInBounds_toArray, List.set_cons_zero, List.set_cons_succ]
        refine take_at 10 168 (.agg (enc z).toArray) rfl (by rfl) (by kernel_rfl) (by kernel_rfl) (by kernel_rfl) (fun _ _ _ h => h) (yieldsIf_load_mid (by rfl) _ _ rfl _ _ rfl (enc z) _ (fun w' hSw => hSw.1.range hz) Tryd.underlying41 rfl (by rw [enc_len]; exact infoE)) (by assumption) ?_
        simp only [List.setIfInBounds_toArray, List.set_cons_zero, List.set_cons_succ]
        refine wpAnyH_ready (rs := [11]) (by kernel_rfl) (by simp) ?_
        refine AllReadyH.cons rfl (fun K hK => ?_) AllReadyH.nil
        go_simp
        go_wp2_with (go_at_call 56; refine (cmp_at u z c hcf _).mono ?_; rintro e w5 ⟨rfl, hg5⟩)
        refine hK.out _ _ ⟨hHeld.1.grown0 enc_len (by omega) hg5, grown_trans hHeld.2 (grown_weak hg5 _)⟩ (fun hHeld => ?_)
        clear hK K
        refine take_at 12 170 (.bool true) rfl (by rfl) (by kernel_rfl) (by kernel_rfl) (by kernel_rfl) (fun _ _ _ h => h) (Or.inl ⟨by rfl, fun w' hSw => by go_simp⟩) (by assumption) ?_
        simp only [List.setIfInBounds_toArray, List.set_cons_zero, List.set_cons_succ]
        refine take_at 13 171 (.bool false) rfl (by rfl) (by kernel_rfl) (by kernel_rfl) (by kernel_rfl) (fun _ _ _ h => h) (Or.inl ⟨by rfl, fun w' hSw => by go_simp⟩) (by assumption) ?_
        simp only [List.setIfInBounds_toArray, List.set_cons_zero, List.set_cons_succ]
        refine wpAnyH_done (by kernel_rfl) ?_ _
        obtain ⟨hH1, hH2⟩ := hHeld
        have HH1 := Lib.hid hH1
        have HH2 := Lib.hid hH2
        clear hH1 hH2 hAr hgr
        go_wp2
        first
          | exact ⟨⟨lo, h, rfl, rfl, HDN.out, HH1.out, HH2.out⟩, by simp [intOf] <;> omega⟩
          | exact ⟨⟨_, _, _, _, _, _, _, _, _, _, _, _, _, _, _, _, _, _, _, _, _, _, _, _, _, _, _, _, _, ⟨lo, h, rfl, rfl, HDN.out, HH1.out, HH2.out⟩, rfl⟩, by simp [intOf] <;> omega⟩
      · have hc1 : ¬ c < 0 := fun e => hb (hcl.1 e)
        have hc0 : 0 ≤ c := by omega
        have HUP := Lib.hid ((Hid.out hbs).up n4 n5 (by rw [hgc]; simpa using hb))
        clear hcl hc1 hgc
        go_wp2_with fail
        refine wp_region_held_drew (S := fun w' => Arr enc 2 w' g D ∧ w.grownBy w' (some g)) (by kernel_rfl) ⟨(Hid.out hAr).drew, grown_trans (Hid.out hgr) (grown_drew _ _)⟩ (fun hHeld => ?_)
        refine take_at 0 158 (.func (.func 56) #[] #[]) rfl (by rfl) (by kernel_rfl) (by kernel_rfl) (by kernel_rfl) (fun _ _ _ h => h) (Or.inl ⟨by rfl, fun w' hSw => by go_simp⟩) (by assumption) ?_
        simp only [List.setIfInBounds_toArray, List.set_cons_zero, List.set_cons_succ]
        refine take_at 1 159 (.slice (some ⟨g, 0, none⟩) N cap) rfl (by rfl) (by kernel_rfl) (by kernel_rfl) (by kernel_rfl) (fun _ _ _ h => h) (Or.inl ⟨by rfl, fun w' hSw => by go_simp⟩) (by assumption) ?_
        simp only [List.setIfInBounds_toArray, List.set_cons_zero, List.set_cons_succ]
        refine take_at 2 160 (.int .i64 ((Q : Int) + (M : Int) - 1)) rfl (by rfl) (by kernel_rfl) (by kernel_rfl) (by kernel_rfl) (fun _ _ _ h => h) (Or.inl ⟨by rfl, fun w' hSw => by go_simp⟩) (by assumption) ?_
        simp only [List.setIfInBounds_toArray, List.set_cons_zero, List.set_cons_succ]
        refine take_at 3 161 (.int .i64 h) rfl (by rfl) (by kernel_rfl) (by kernel_rfl) (by kernel_rfl) (fun _ _ _ h => h) (Or.inl ⟨by rfl, fun w' hSw => by go_simp⟩) (by assumption) ?_
        simp only [List.setIfInBounds_toArray, List.set_cons_zero, List.set_cons_succ]
        refine take_at 4 162 (.int .i64 q) rfl (by rfl) (by kernel_rfl) (by kernel_rfl) (by kernel_rfl) (fun _ _ _ h => h) (Or.inl ⟨by rfl, fun w' hSw => by go_simp <;> exact IntWalk.i64_in _ ⟨by omega, by omega⟩⟩) (by assumption) ?_
        simp only [List.setIfInBounds_toArray, List.set_cons_zero, List.set_cons_succ]
        refine take_at 5 163 (.pointer (some ⟨g, q * 2, none⟩)) rfl (by rfl) (by kernel_rfl) (by kernel_rfl) (by kernel_rfl) (fun _ _ _ h => h) (Or.inl ⟨by rfl, fun w' hSw => by go_simp⟩) (by assumption) ?_
        simp only [List.setIfInBounds_toArray, List.set_cons_zero, List.set_cons_succ]
        refine take_at 6 164 (.agg (enc u).toArray) rfl (by rfl) (by kernel_rfl) (by kernel_rfl) (by kernel_rfl) (fun _ _ _ h => h) (yieldsIf_load_mid (by rfl) _ _ rfl _ _ rfl (enc u) _ (fun w' hSw => hSw.1.range hu) Tryd.underlying41 rfl (by rw [enc_len]; exact infoE)) (by assumption) ?_
        simp only [List.setIfInBounds_toArray, List.set_cons_zero, List.set_cons_succ]
        refine take_at 7 165 (.slice (some ⟨g, 0, none⟩) N cap) rfl (by rfl) (by kernel_rfl) (by kernel_rfl) (by kernel_rfl) (fun _ _ _ h => h) (Or.inl ⟨by rfl, fun w' hSw => by go_simp⟩) (by assumption) ?_
        simp only [List.setIfInBounds_toArray, List.set_cons_zero, List.set_cons_succ]
        refine take_at 8 166 (.int .i64 h) rfl (by rfl) (by kernel_rfl) (by kernel_rfl) (by kernel_rfl) (fun _ _ _ h => h) (Or.inl ⟨by rfl, fun w' hSw => by go_simp⟩) (by assumption) ?_
        simp only [List.setIfInBounds_toArray, List.set_cons_zero, List.set_cons_succ]
        refine take_at 9 167 (.pointer (some ⟨g, h * 2, none⟩)) rfl (by rfl) (by kernel_rfl) (by kernel_rfl) (by kernel_rfl) (fun _ _ _ h => h) (Or.inl ⟨by rfl, fun w' hSw => by go_simp⟩) (by assumption) ?_
        simp only [List.setIfInBounds_toArray, List.set_cons_zero, List.set_cons_succ]
        refine take_at 10 168 (.agg (enc z).toArray) rfl (by rfl) (by kernel_rfl) (by kernel_rfl) (by kernel_rfl) (fun _ _ _ h => h) (yieldsIf_load_mid (by rfl) _ _ rfl _ _ rfl (enc z) _ (fun w' hSw => hSw.1.range hz) Tryd.underlying41 rfl (by rw [enc_len]; exact infoE)) (by assumption) ?_
        simp only [List.setIfInBounds_toArray, List.set_cons_zero, List.set_cons_succ]
        refine wpAnyH_ready (rs := [11]) (by kernel_rfl) (by simp) ?_
        refine AllReadyH.cons rfl (fun K hK => ?_) AllReadyH.nil
        go_simp
        go_wp2_with (go_at_call 56; refine (cmp_at u z c hcf _).mono ?_; rintro e w5 ⟨rfl, hg5⟩)
        refine hK.out _ _ ⟨hHeld.1.grown0 enc_len (by omega) hg5, grown_trans hHeld.2 (grown_weak hg5 _)⟩ (fun hHeld => ?_)
        clear hK K
        refine take_at 12 170 (.bool false) rfl (by rfl) (by kernel_rfl) (by kernel_rfl) (by kernel_rfl) (fun _ _ _ h => h) (Or.inl ⟨by rfl, fun w' hSw => by go_simp⟩) (by assumption) ?_
        simp only [List.setIfInBounds_toArray, List.set_cons_zero, List.set_cons_succ]
        refine take_at 13 171 (.bool true) rfl (by rfl) (by kernel_rfl) (by kernel_rfl) (by kernel_rfl) (fun _ _ _ h => h) (Or.inl ⟨by rfl, fun w' hSw => by go_simp⟩) (by assumption) ?_
        simp only [List.setIfInBounds_toArray, List.set_cons_zero, List.set_cons_succ]
        refine wpAnyH_done (by kernel_rfl) ?_ _
        obtain ⟨hH1, hH2⟩ := hHeld
        have HH1 := Lib.hid hH1
        have HH2 := Lib.hid hH2
        clear hH1 hH2 hAr hgr
        go_wp2
        first
          | exact ⟨⟨h + 1, hi, by go_num, rfl, HUP.out, HH1.out, HH2.out⟩, by simp [intOf] <;> omega⟩
          | exact ⟨⟨_, _, _, _, _, _, _, _, _, _, _, _, _, _, _, _, _, _, _, _, _, _, _, _, _, _, _, _, _, ⟨h + 1, hi, by go_num, rfl, HUP.out, HH1.out, HH2.out⟩, rfl⟩, by simp [intOf] <;> omega⟩
    · obtain rfl : lo = hi := by omega
      obtain ⟨X1, X2, Y1, Y2, e1, e2, F⟩ := four_make HD.out HN.out HA0.out HM.out HB.out HQ1.out HQ2.out HXL.out HYL.out hn2 (.inl ⟨by omega, by omega, rfl⟩) HX.out HY.out (Hid.out hbs)
      obtain ⟨E, hE⟩ : ∃ E : Nat, (Q : Int) + (M : Int) - (lo : Int) = (E : Int) := ⟨Q + M - lo, by omega⟩
      rw [show Q + M - lo = E by omega] at F
      have HF := Lib.hid F
      have hAr1 : Arr enc 2 wr g (P ++ (X ++ (Y ++ R))) := by rw [← HD.out]; exact Hid.out hAr
      rw [e1, e2] at hAr1
      have HAr := Lib.hid hAr1
      have HE1 := Lib.hid e1
      have HE2 := Lib.hid e2
      have b3 := F.hAQ
      have b4 := F.hQB
      clear hAr1 F e1 e2 hbs hAr HX HY HXL HYL HD HA0 HM HB
      by_cases cQ : lo < Q
      · have d1 : (lo : Int) < (M : Int) := by omega
        have d2 : (M : Int) < (E : Int) := by omega
        have d3 : (lo : Int) < (Q : Int) := by omega
        have d4 : (Q : Int) < (E : Int) := by omega
        by_cases cA : A0 < lo
        · have d5 : (A0 : Int) < (lo : Int) := by omega
          by_cases cB : E < B
          · have d6 : (E : Int) < (B : Int) := by omega
            go_wp2_with fail
            go_at_call 106
            refine (four_rot HF.out cap hL hm _ HAr.out (Hid.out hgr) (by omega) (by omega)).mono ?_
            rintro e w1 ⟨rfl, hs1⟩
            have H1 := Lib.hid hs1
            clear hs1
            go_wp2_with fail
            go_at_call 101
            refine (four_one IH HF.out cap hL hm H1.out (by omega) (by omega)).mono ?_
            rintro e w2 ⟨rfl, hs2⟩
            have H2 := Lib.hid hs2
            clear hs2
            go_wp2_with fail
            go_at_call 101
            refine (four_two IH HF.out cap hL hm H2.out (by omega) (by omega)).mono ?_
            rintro e w3 ⟨rfl, hs3⟩
            have H3 := Lib.hid hs3
            clear hs3
            go_wp2
            exact ⟨rfl, _, results_none rfl _ _ _, rfl, by rw [HE1.out, HE2.out]; exact H3.out⟩
          · have d6 : (B : Int) ≤ (E : Int) := by omega
            go_wp2_with fail
            go_at_call 106
            refine (four_rot HF.out cap hL hm _ HAr.out (Hid.out hgr) (by omega) (by omega)).mono ?_
            rintro e w1 ⟨rfl, hs1⟩
            have H1 := Lib.hid hs1
            clear hs1
            go_wp2_with fail
            go_at_call 101
            refine (four_one IH HF.out cap hL hm H1.out (by omega) (by omega)).mono ?_
            rintro e w2 ⟨rfl, hs2⟩
            have H2 := Lib.hid hs2
            clear hs2
            have H3 := Lib.hid (four_two' HF.out H2.out (by omega))
            go_wp2
            exact ⟨rfl, _, results_none rfl _ _ _, rfl, by rw [HE1.out, HE2.out]; exact H3.out⟩
        · have d5 : (lo : Int) ≤ (A0 : Int) := by omega
          by_cases cB : E < B
          · have d6 : (E : Int) < (B : Int) := by omega
            go_wp2_with fail
            go_at_call 106
            refine (four_rot HF.out cap hL hm _ HAr.out (Hid.out hgr) (by omega) (by omega)).mono ?_
            rintro e w1 ⟨rfl, hs1⟩
            have H1 := Lib.hid hs1
            clear hs1
            have H2 := Lib.hid (four_one' HF.out H1.out (by omega))
            go_wp2_with fail
            go_at_call 101
            refine (four_two IH HF.out cap hL hm H2.out (by omega) (by omega)).mono ?_
            rintro e w3 ⟨rfl, hs3⟩
            have H3 := Lib.hid hs3
            clear hs3
            go_wp2
            exact ⟨rfl, _, results_none rfl _ _ _, rfl, by rw [HE1.out, HE2.out]; exact H3.out⟩
          · have d6 : (B : Int) ≤ (E : Int) := by omega
            go_wp2_with fail
            go_at_call 106
            refine (four_rot HF.out cap hL hm _ HAr.out (Hid.out hgr) (by omega) (by omega)).mono ?_
            rintro e w1 ⟨rfl, hs1⟩
            have H1 := Lib.hid hs1
            clear hs1
            have H2 := Lib.hid (four_one' HF.out H1.out (by omega))
            have H3 := Lib.hid (four_two' HF.out H2.out (by omega))
            go_wp2
            exact ⟨rfl, _, results_none rfl _ _ _, rfl, by rw [HE1.out, HE2.out]; exact H3.out⟩
      · have d1 : (lo : Int) < (M : Int) := by omega
        have d2 : (E : Int) ≤ (M : Int) := by omega
        have d3 : (Q : Int) ≤ (lo : Int) := by omega
        have d4 : (Q : Int) < (E : Int) := by omega
        have d5 : (A0 : Int) < (lo : Int) := by omega
        by_cases cB : E < B
        · have d6 : (E : Int) < (B : Int) := by omega
          have H1 := Lib.hid (four_rot' HF.out HAr.out (Hid.out hgr) (by omega))
          have H2 := Lib.hid (four_one' HF.out H1.out (by omega))
          go_wp2_with fail
          go_at_call 101
          refine (four_two IH HF.out cap hL hm H2.out (by omega) (by omega)).mono ?_
          rintro e w3 ⟨rfl, hs3⟩
          have H3 := Lib.hid hs3
          clear hs3
          go_wp2
          exact ⟨rfl, _, results_none rfl _ _ _, rfl, by rw [HE1.out, HE2.out]; exact H3.out⟩
        · exfalso; omega
end Go.Proofs.YtjkapmghifglcaaDoor.Sb
/- Contract of package slices' symMergeCmpFunc at changes: both stretches have more than one element, the second one begins ahead of, or at, the middle. -/
namespace Go.Proofs.YtjkapmghifglcaaDoor.Sb
set_option linter.unusedVariables false
open Go.ChangeShapes Go.WideShapes Go.ChangeAt Go.RowKit
open Ar Rg St
set_option maxRecDepth 100000 in
set_option maxHeartbeats 2000000 in
theorem sym_le (n : Nat) (IH : SymOK n) (P X Y R D : List Ch) (hD : D = P ++ (X ++ (Y ++ R))) (hX : 1 < X.length) (hY : 1 < Y.length) (hn : X.length + Y.length ≤ n) (sX : Srt key lt X) (sY : Srt key lt Y) (g cap N : Nat) (hN : N = D.length) (hL : N ≤ cap) (hm : N ≤ 281474976710656) (w : World) (hA : Arr enc 2 w g D) (a m b : Int) (ha : a = (P.length : Int)) (hmm : m = (P.length : Int) + X.length) (hb : b = (P.length : Int) + X.length + Y.length) (hw : m ≤ (a + b) / 2) :
    Calls Tryd.prog 101 #[.slice (some ⟨g, 0, none⟩) N cap, .int .i64 a, .int .i64 m, .int .i64 b, CMP] w fun e w' => e = .returned (.tuple #[]) ∧ Merged P X Y R g w w' := by
  obtain ⟨A0, hA0⟩ : ∃ M : Nat, M = P.length := ⟨_, rfl⟩
  obtain ⟨M, hM⟩ : ∃ M : Nat, M = A0 + X.length := ⟨_, rfl⟩
  obtain ⟨B, hB⟩ : ∃ B : Nat, B = M + Y.length := ⟨_, rfl⟩
  obtain ⟨Q, hQ⟩ : ∃ Q : Nat, ((A0 : Int) + (B : Int)) / 2 = (Q : Int) := ⟨(A0 + B) / 2, by omega⟩
  have q1 : 2 * Q ≤ A0 + B := by omega
  have q2 : A0 + B < 2 * Q + 2 := by omega
  have hlen : B ≤ N := by rw [hN, hD, hB, hM, hA0]; simp only [List.length_append]; omega
  have b1 : A0 + 1 < M := by omega
  have b2 : M + 1 < B := by omega
  have hn2 : B - A0 ≤ n := by omega
  have em : m = (M : Int) := by omega
  have eb : b = (B : Int) := by omega
  rw [← hA0] at ha hmm hb
  rw [ha, eb, hQ, em] at hw
  have hnq : ¬ Q < M := by omega
  have hdq : decide (Q < M) = false := by simp [hnq]
  have HQ1 := Lib.hid q1
  have HQ2 := Lib.hid q2
  have HA := Lib.hid hA
  have HD := Lib.hid hD
  have HN := Lib.hid hN
  have HX := Lib.hid sX
  have HY := Lib.hid sY
  have HA0 := Lib.hid hA0
  have HM := Lib.hid hM
  have HB := Lib.hid hB
  have HXL := Lib.hid hX
  have HYL := Lib.hid hY
  clear hA hD hN sX sY hA0 hM hB hX hY hmm hb hn
  subst ha em eb
  have hq1 : (((M : Int) - A0) == 1) = false := by rw [beq_eq_false_iff_ne]; omega
  have hq2 : (((B : Int) - M) == 1) = false := by rw [beq_eq_false_iff_ne]; omega
  unfold CMP
  go_enter Tryd.func101, Tryd.ntmps101
  go_wp2_with fail
  go_loopw [20, 21] (fun v u wr => ∃ lo hi : Nat, v = .int .i64 lo ∧ u = .int .i64 hi ∧ Hid (Bs (GC D (Q + M - 1)) A0 M lo hi) ∧ Hid (Arr enc 2 wr g D) ∧ Hid (w.grownBy wr (some g))) (fun v u _ => (intOf u).toNat - (intOf v).toNat)
  case atStart => exact ⟨A0, M, by go_num, by go_num, Bs.start _ (by omega), HA.out, grown_refl _ _⟩
  case round =>
    obtain ⟨lo, hi, rfl, rfl, hbs, hAr, hgr⟩ := hrel
    have hbd := Hid.out hbs
    obtain ⟨n1, n2, n3, _⟩ := hbd
    by_cases hlt : lo < hi
    · obtain ⟨h, hh⟩ : ∃ h : Nat, ((lo : Int) + (hi : Int)) / 2 = (h : Int) := ⟨(lo + hi) / 2, by omega⟩
      have n4 : lo ≤ h := by omega
      have n5 : h < hi := by omega
      have n6 : (0 : Int) ≤ (h : Int) := by omega
      have n7 : (h : Int) < (N : Int) := by omega
      obtain ⟨q, hq⟩ : ∃ q : Nat, (Q : Int) + (M : Int) - 1 - (h : Int) = (q : Int) := ⟨Q + M - 1 - h, by omega⟩
      have n8 : (0 : Int) ≤ (q : Int) := by omega
      have n9 : (q : Int) < (N : Int) := by omega
      obtain ⟨z, hz⟩ : ∃ z, D[h]? = some z := ⟨_, List.getElem?_eq_getElem (by rw [← HN.out]; omega)⟩
      obtain ⟨u, hu⟩ : ∃ z, D[q]? = some z := ⟨_, List.getElem?_eq_getElem (by rw [← HN.out]; omega)⟩
      obtain ⟨c, hcf⟩ : ∃ c, cf u z = c := ⟨_, rfl⟩
      have hcl := cf_lt u z
      rw [hcf] at hcl
      have hgc : GC D (Q + M - 1) h = lt (key u) (key z) := GC_at (by rw [show Q + M - 1 - h = q by omega]; exact hu) hz
      by_cases hb : lt (key u) (key z) = true
      · have hc0 : c < 0 := hcl.2 hb
        have HDN := Lib.hid ((Hid.out hbs).down n4 n5 (by rw [hgc, hb]))
        clear hcl hgc
        go_wp2_with fail
        refine wp_region_held_drew (S := fun w' => Arr enc 2 w' g D ∧ w.grownBy w' (some g)) (by kernel_rfl) ⟨(Hid.out hAr).drew, grown_trans (Hid.out hgr) (grown_drew _ _)⟩ (fun hHeld => ?_)
        refine take_at 0 158 (.func (.func 56) #[] #[]) rfl (by rfl) (by kernel_rfl) (by kernel_rfl) (by kernel_rfl) (fun _ _ _ h => h) (Or.inl ⟨by rfl, fun w' hSw => by go_simp⟩) (by assumption) ?_
        simp only [List.setIfInBounds_toArray, List.set_cons_zero, List.set_cons_succ]
        refine take_at 1 159 (.slice (some ⟨g, 0, none⟩) N cap) rfl (by rfl) (by kernel_rfl) (by kernel_rfl) (by kernel_rfl) (fun _ _ _ h => h) (Or.inl ⟨by rfl, fun w' hSw => by go_simp⟩) (by assumption) ?_
        simp only [List.setIfInBounds_toArray, List.set_cons_zero, List.set_cons_succ]
        refine take_at 2 160 (.int .i64 ((Q : Int) + (M : Int) - 1)) rfl (by rfl) (by kernel_rfl) (by kernel_rfl) (by kernel_rfl) (fun _ _ _ h => h) (Or.inl ⟨by rfl, fun w' hSw => by go_simp⟩) (by assumption) ?_
        simp only [List.setIfInBounds_toArray, List.set_cons_zero, List.set_cons_succ]
        refine take_at 3 161 (.int .i64 h) rfl (by rfl) (by kernel_rfl) (by kernel_rfl) (by kernel_rfl) (fun _ _ _ h => h) (Or.inl ⟨by rfl, fun w' hSw => by go_simp⟩) (by assumption) ?_
        simp only [List.setIfInBounds_toArray, List.set_cons_zero, List.set_cons_succ]
        refine take_at 4 162 (.int .i64 q) rfl (by rfl) (by kernel_rfl) (by kernel_rfl) (by kernel_rfl) (fun _ _ _ h => h) (Or.inl ⟨by rfl, fun w' hSw => by go_simp <;> exact IntWalk.i64_in _ ⟨by omega, by omega⟩⟩) (by assumption) ?_
        simp only [List.setIfInBounds_toArray, List.set_cons_zero, List.set_cons_succ]
        refine take_at 5 163 (.pointer (some ⟨g, q * 2, none⟩)) rfl (by rfl) (by kernel_rfl) (by kernel_rfl) (by kernel_rfl) (fun _ _ _ h => h) (Or.inl ⟨by rfl, fun w' hSw => by go_simp⟩) (by assumption) ?_
        simp only [List.setIfInBounds_toArray, List.set_cons_zero, List.set_cons_succ]
        refine take_at 6 164 (.agg (enc u).toArray) rfl (by rfl) (by kernel_rfl) (by kernel_rfl) (by kernel_rfl) (fun _ _ _ h => h) (yieldsIf_load_mid (by rfl) _ _ rfl _ _ rfl (enc u) _ (fun w' hSw => hSw.1.range hu) Tryd.underlying41 rfl (by rw [enc_len]; exact infoE)) (by assumption) ?_
        simp only [List.setIfInBounds_toArray, List.set_cons_zero, List.set_cons_succ]
        refine take_at 7 165 (.slice (some ⟨g, 0, none⟩) N cap) rfl (by rfl) (by kernel_rfl) (by kernel_rfl) (by kernel_rfl) (fun _ _ _ h => h) (Or.inl ⟨by rfl, fun w' hSw => by go_simp⟩) (by assumption) ?_
        simp only [List.setIfInBounds_toArray, List.set_cons_zero, List.set_cons_succ]
        refine take_at 8 166 (.int .i64 h) rfl (by rfl) (by kernel_rfl) (by kernel_rfl) (by kernel_rfl) (fun _ _ _ h => h) (Or.inl ⟨by rfl, fun w' hSw => by go_simp⟩) (by assumption) ?_
        simp only [List.setIfInBounds_toArray, List.set_cons_zero, List.set_cons_succ]
        refine take_at 9 167 (.pointer (some ⟨g, h * 2, none⟩)) rfl (by rfl) (by kernel_rfl) (by kernel_rfl) (by kernel_rfl) (fun _ _ _ h => h) (Or.inl ⟨by rfl, fun w' hSw => by go_simp⟩) (by assumption) ?_
        simp only [List.setIfInBounds_toArray, List.set_cons_zero, List.set_cons_succ]
        refine take_at 10 168 (.agg (enc z).toArray) rfl (by rfl) (by kernel_rfl) (by kernel_rfl) (by kernel_rfl) (fun _ _ _ h => h) (yieldsIf_load_mid (by rfl) _ _ rfl _ _ rfl (enc z) _ (fun w' hSw => hSw.1.range hz) Tryd.underlying41 rfl (by rw [enc_len]; exact infoE)) (by assumption) ?_
        simp only [List.setIfInBounds_toArray, List.set_cons_zero, List.set_cons_succ]
        refine wpAnyH_ready (rs := [11]) (by kernel_rfl) (by simp) ?_
        refine AllReadyH.cons rfl (fun K hK => ?_) AllReadyH.nil
        go_simp
        go_wp2_with (go_at_call 56; refine (cmp_at u z c hcf _).mono ?_; rintro e w5 ⟨rfl, hg5⟩)
        refine hK.out _ _ ⟨hHeld.1.grown0 enc_len (by omega) hg5, grown_trans hHeld.2 (grown_weak hg5 _)⟩ (fun hHeld => ?_)
        clear hK K
        refine take_at 12 170 (.bool true) rfl (by rfl) (by kernel_rfl) (by kernel_rfl) (by kernel_rfl) (fun _ _ _ h => h) (Or.inl ⟨by rfl, fun w' hSw => by go_simp⟩) (by assumption) ?_
        simp only [List.setIfInBounds_toArray, List.set_cons_zero, List.set_cons_succ]
        refine take_at 13 171 (.bool false) rfl (by rfl) (by kernel_rfl) (by kernel_rfl) (by kernel_rfl) (fun _ _ _ h => h) (Or.inl ⟨by rfl, fun w' hSw => by go_simp⟩) (by assumption) ?_
        simp only [List.setIfInBounds_toArray, List.set_cons_zero, List.set_cons_succ]
        refine wpAnyH_done (by kernel_rfl) ?_ _
        obtain ⟨hH1, hH2⟩ := hHeld
        have HH1 := Lib.hid hH1
        have HH2 := Lib.hid hH2
        clear hH1 hH2 hAr hgr
        go_wp2
        first
          | exact ⟨⟨lo, h, rfl, rfl, HDN.out, HH1.out, HH2.out⟩, by simp [intOf] <;> omega⟩
          | exact ⟨⟨_, _, _, _, _, _, _, _, _, _, _, _, _, _, _, _, _, _, _, _, _, _, _, _, _, _, _, _, _, ⟨lo, h, rfl, rfl, HDN.out, HH1.out, HH2.out⟩, rfl⟩, by simp [intOf] <;> omega⟩
      · have hc1 : ¬ c < 0 := fun e => hb (hcl.1 e)
        have hc0 : 0 ≤ c := by omega
        have HUP := Lib.hid ((Hid.out hbs).up n4 n5 (by rw [hgc]; simpa using hb))
        clear hcl hc1 hgc
        go_wp2_with fail
        refine wp_region_held_drew (S := fun w' => Arr enc 2 w' g D ∧ w.grownBy w' (some g)) (by kernel_rfl) ⟨(Hid.out hAr).drew, grown_trans (Hid.out hgr) (grown_drew _ _)⟩ (fun hHeld => ?_)
        refine take_at 0 158 (.func (.func 56) #[] #[]) rfl (by rfl) (by kernel_rfl) (by kernel_rfl) (by kernel_rfl) (fun _ _ _ h => h) (Or.inl ⟨by rfl, fun w' hSw => by go_simp⟩) (by assumption) ?_
        simp only [List.setIfInBounds_toArray, List.set_cons_zero, List.set_cons_succ]
        refine take_at 1 159 (.slice (some ⟨g, 0, none⟩) N cap) rfl (by rfl) (by kernel_rfl) (by kernel_rfl) (by kernel_rfl) (fun _ _ _ h => h) (Or.inl ⟨by rfl, fun w' hSw => by go_simp⟩) (by assumption) ?_
        simp only [List.setIfInBounds_toArray, List.set_cons_zero, List.set_cons_succ]
        refine take_at 2 160 (.int .i64 ((Q : Int) + (M : Int) - 1)) rfl (by rfl) (by kernel_rfl) (by kernel_rfl) (by kernel_rfl) (fun _ _ _ h => h) (Or.inl ⟨by rfl, fun w' hSw => by go_simp⟩) (by assumption) ?_
        simp only [List.setIfInBounds_toArray, List.set_cons_zero, List.set_cons_succ]
        refine take_at 3 161 (.int .i64 h) rfl (by rfl) (by kernel_rfl) (by kernel_rfl) (by kernel_rfl) (fun _ _ _ h => h) (Or.inl ⟨by rfl, fun w' hSw => by go_simp⟩) (by assumption) ?_
        simp only [List.setIfInBounds_toArray, List.set_cons_zero, List.set_cons_succ]
        refine take_at 4 162 (.int .i64 q) rfl (by rfl) (by kernel_rfl) (by kernel_rfl) (by kernel_rfl) (fun _ _ _ h => h) (Or.inl ⟨by rfl, fun w' hSw => by go_simp <;> exact IntWalk.i64_in _ ⟨by omega, by omega⟩⟩) (by assumption) ?_
        simp only [List.setIfInBounds_toArray, List.set_cons_zero, List.set_cons_succ]
        refine take_at 5 163 (.pointer (some ⟨g, q * 2, none⟩)) rfl (by rfl) (by kernel_rfl) (by kernel_rfl) (by kernel_rfl) (fun _ _ _ h => h) (Or.inl ⟨by rfl, fun w' hSw => by go_simp⟩) (by assumption) ?_
        simp only [List.setIfInBounds_toArray, List.set_cons_zero, List.set_cons_succ]
        refine take_at 6 164 (.agg (enc u).toArray) rfl (by rfl) (by kernel_rfl) (by kernel_rfl) (by kernel_rfl) (fun _ _ _ h => h) (yieldsIf_load_mid (by rfl) _ _ rfl _ _ rfl (enc u) _ (fun w' hSw => hSw.1.range hu) Tryd.underlying41 rfl (by rw [enc_len]; exact infoE)) (by assumption) ?_
        simp only [List.setIfInBounds_toArray, List.set_cons_zero, List.set_cons_succ]
        refine take_at 7 165 (.slice (some ⟨g, 0, none⟩) N cap) rfl (by rfl) (by kernel_rfl) (by kernel_rfl) (by kernel_rfl) (fun _ _ _ h => h) (Or.inl ⟨by rfl, fun w' hSw => by go_simp⟩) (by assumption) ?_
        simp only [List.setIfInBounds_toArray, List.set_cons_zero, List.set_cons_succ]
        refine take_at 8 166 (.int .i64 h) rfl (by rfl) (by kernel_rfl) (by kernel_rfl) (by kernel_rfl) (fun _ _ _ h => h) (Or.inl ⟨by rfl, fun w' hSw => by go_simp⟩) (by assumption) ?_
        simp only [List.setIfInBounds_toArray, List.set_cons_zero, List.set_cons_succ]
        refine take_at 9 167 (.pointer (some ⟨g, h * 2, none⟩)) rfl (by rfl) (by kernel_rfl) (by kernel_rfl) (by kernel_rfl) (fun _ _ _ h => h) (Or.inl ⟨by rfl, fun w' hSw => by go_simp⟩) (by assumption) ?_
        simp only [List.setIfInBounds_toArray, List.set_cons_zero, List.set_cons_succ]
        refine take_at 10 168 (.agg (enc z).toArray) rfl (by rfl) (by kernel_rfl) (by kernel_rfl) (by kernel_rfl) (fun _ _ _ h => h) (yieldsIf_load_mid (by rfl) _ _ rfl _ _ rfl (enc z) _ (fun w' hSw => hSw.1.range hz) Tryd.underlying41 rfl (by rw [enc_len]; exact infoE)) (by assumption) ?_
        simp only [List.setIfInBounds_toArray, List.set_cons_zero, List.set_cons_succ]
        refine wpAnyH_ready (rs := [11]) (by kernel_rfl) (by simp) ?_
        refine AllReadyH.cons rfl (fun K hK => ?_) AllReadyH.nil
        go_simp
        go_wp2_with (go_at_call 56; refine (cmp_at u z c hcf _).mono ?_; rintro e w5 ⟨rfl, hg5⟩)
        refine hK.out _ _ ⟨hHeld.1.grown0 enc_len (by omega) hg5, grown_trans hHeld.2 (grown_weak hg5 _)⟩ (fun hHeld => ?_)
        clear hK K
        refine take_at 12 170 (.bool false) rfl (by rfl) (by kernel_rfl) (by kernel_rfl) (by kernel_rfl) (fun _ _ _ h => h) (Or.inl ⟨by rfl, fun w' hSw => by go_simp⟩) (by assumption) ?_
        simp only [List.setIfInBounds_toArray, List.set_cons_zero, List.set_cons_succ]
        refine take_at 13 171 (.bool true) rfl (by rfl) (by kernel_rfl) (by kernel_rfl) (by kernel_rfl) (fun _ _ _ h => h) (Or.inl ⟨by rfl, fun w' hSw => by go_simp⟩) (by assumption) ?_
        simp only [List.setIfInBounds_toArray, List.set_cons_zero, List.set_cons_succ]
        refine wpAnyH_done (by kernel_rfl) ?_ _
        obtain ⟨hH1, hH2⟩ := hHeld
        have HH1 := Lib.hid hH1
        have HH2 := Lib.hid hH2
        clear hH1 hH2 hAr hgr
        go_wp2
        first
          | exact ⟨⟨h + 1, hi, by go_num, rfl, HUP.out, HH1.out, HH2.out⟩, by simp [intOf] <;> omega⟩
          | exact ⟨⟨_, _, _, _, _, _, _, _, _, _, _, _, _, _, _, _, _, _, _, _, _, _, _, _, _, _, _, _, _, ⟨h + 1, hi, by go_num, rfl, HUP.out, HH1.out, HH2.out⟩, rfl⟩, by simp [intOf] <;> omega⟩
    · obtain rfl : lo = hi := by omega
      obtain ⟨X1, X2, Y1, Y2, e1, e2, F⟩ := four_make HD.out HN.out HA0.out HM.out HB.out HQ1.out HQ2.out HXL.out HYL.out hn2 (.inr ⟨by omega, rfl, rfl⟩) HX.out HY.out (Hid.out hbs)
      obtain ⟨E, hE⟩ : ∃ E : Nat, (Q : Int) + (M : Int) - (lo : Int) = (E : Int) := ⟨Q + M - lo, by omega⟩
      rw [show Q + M - lo = E by omega] at F
      have HF := Lib.hid F
      have hAr1 : Arr enc 2 wr g (P ++ (X ++ (Y ++ R))) := by rw [← HD.out]; exact Hid.out hAr
      rw [e1, e2] at hAr1
      have HAr := Lib.hid hAr1
      have HE1 := Lib.hid e1
      have HE2 := Lib.hid e2
      have b3 := F.hAQ
      have b4 := F.hQB
      clear hAr1 F e1 e2 hbs hAr HX HY HXL HYL HD HA0 HM HB
      by_cases cM : lo < M
      · have d1 : (lo : Int) < (M : Int) := by omega
        have d2 : (M : Int) < (E : Int) := by omega
        have d3 : (lo : Int) < (Q : Int) := by omega
        have d4 : (Q : Int) < (E : Int) := by omega
        by_cases cA : A0 < lo
        · have d5 : (A0 : Int) < (lo : Int) := by omega
          by_cases cB : E < B
          · have d6 : (E : Int) < (B : Int) := by omega
            go_wp2_with fail
            go_at_call 106
            refine (four_rot HF.out cap hL hm _ HAr.out (Hid.out hgr) (by omega) (by omega)).mono ?_
            rintro e w1 ⟨rfl, hs1⟩
            have H1 := Lib.hid hs1
            clear hs1
            go_wp2_with fail
            go_at_call 101
            refine (four_one IH HF.out cap hL hm H1.out (by omega) (by omega)).mono ?_
            rintro e w2 ⟨rfl, hs2⟩
            have H2 := Lib.hid hs2
            clear hs2
            go_wp2_with fail
            go_at_call 101
            refine (four_two IH HF.out cap hL hm H2.out (by omega) (by omega)).mono ?_
            rintro e w3 ⟨rfl, hs3⟩
            have H3 := Lib.hid hs3
            clear hs3
            go_wp2
            exact ⟨rfl, _, results_none rfl _ _ _, rfl, by rw [HE1.out, HE2.out]; exact H3.out⟩
          · have d6 : (B : Int) ≤ (E : Int) := by omega
            go_wp2_with fail
            go_at_call 106
            refine (four_rot HF.out cap hL hm _ HAr.out (Hid.out hgr) (by omega) (by omega)).mono ?_
            rintro e w1 ⟨rfl, hs1⟩
            have H1 := Lib.hid hs1
            clear hs1
            go_wp2_with fail
            go_at_call 101
            refine (four_one IH HF.out cap hL hm H1.out (by omega) (by omega)).mono ?_
            rintro e w2 ⟨rfl, hs2⟩
            have H2 := Lib.hid hs2
            clear hs2
            have H3 := Lib.hid (four_two' HF.out H2.out (by omega))
            go_wp2
            exact ⟨rfl, _, results_none rfl _ _ _, rfl, by rw [HE1.out, HE2.out]; exact H3.out⟩
        · have d5 : (lo : Int) ≤ (A0 : Int) := by omega
          by_cases cB : E < B
          · have d6 : (E : Int) < (B : Int) := by omega
            go_wp2_with fail
            go_at_call 106
            refine (four_rot HF.out cap hL hm _ HAr.out (Hid.out hgr) (by omega) (by omega)).mono ?_
            rintro e w1 ⟨rfl, hs1⟩
            have H1 := Lib.hid hs1
            clear hs1
            have H2 := Lib.hid (four_one' HF.out H1.out (by omega))
            go_wp2_with fail
            go_at_call 101
            refine (four_two IH HF.out cap hL hm H2.out (by omega) (by omega)).mono ?_
            rintro e w3 ⟨rfl, hs3⟩
            have H3 := Lib.hid hs3
            clear hs3
            go_wp2
            exact ⟨rfl, _, results_none rfl _ _ _, rfl, by rw [HE1.out, HE2.out]; exact H3.out⟩
          · have d6 : (B : Int) ≤ (E : Int) := by omega
            go_wp2_with fail
            go_at_call 106
            refine (four_rot HF.out cap hL hm _ HAr.out (Hid.out hgr) (by omega) (by omega)).mono ?_
            rintro e w1 ⟨rfl, hs1⟩
            have H1 := Lib.hid hs1
            clear hs1
            have H2 := Lib.hid (four_one' HF.out H1.out (by omega))
            have H3 := Lib.hid (four_two' HF.out H2.out (by omega))
            go_wp2
            exact ⟨rfl, _, results_none rfl _ _ _, rfl, by rw [HE1.out, HE2.out]; exact H3.out⟩
      · have d1 : (M : Int) ≤ (lo : Int) := by omega
        have d4 : (E : Int) ≤ (Q : Int) := by omega
        have d5 : (A0 : Int) < (lo : Int) := by omega
        by_cases cQ : lo < Q
        · have d3 : (lo : Int) < (Q : Int) := by omega
          have H1 := Lib.hid (four_rot' HF.out HAr.out (Hid.out hgr) (by omega))
          go_wp2_with fail
          go_at_call 101
          refine (four_one IH HF.out cap hL hm H1.out (by omega) (by omega)).mono ?_
          rintro e w2 ⟨rfl, hs2⟩
          have H2 := Lib.hid hs2
          clear hs2
          have H3 := Lib.hid (four_two' HF.out H2.out (by omega))
          go_wp2
          exact ⟨rfl, _, results_none rfl _ _ _, rfl, by rw [HE1.out, HE2.out]; exact H3.out⟩
        · have d3 : (Q : Int) ≤ (lo : Int) := by omega
          have H1 := Lib.hid (four_rot' HF.out HAr.out (Hid.out hgr) (by omega))
          have H2 := Lib.hid (four_one' HF.out H1.out (by omega))
          have H3 := Lib.hid (four_two' HF.out H2.out (by omega))
          go_wp2
          exact ⟨rfl, _, results_none rfl _ _ _, rfl, by rw [HE1.out, HE2.out]; exact H3.out⟩
end Go.Proofs.YtjkapmghifglcaaDoor.Sb
/- Contract of package slices' symMergeCmpFunc at changes: two neighbouring stretches, each in order, become one in order; those of one key stay as they stood. -/
namespace Go.Proofs.YtjkapmghifglcaaDoor.Sb
set_option linter.unusedVariables false
open Go.ChangeShapes Go.WideShapes Go.ChangeAt Go.RowKit
open Ar Rg St
theorem sym_ok : ∀ n, SymOK n
  | 0 => fun P X Y R D hD hX hY hn => by omega
  | n + 1 => by
    intro P X Y R D hD hX hY hn sX sY g cap N hN hL hm w hA a m b ha hmm hb
    by_cases h1 : X.length = 1
    · obtain ⟨x, rfl⟩ := List.length_eq_one_iff.1 h1
      exact sym_left P Y R D x hD hY sY g cap N hN hL hm w hA a m b ha (by rw [hmm]; rfl) (by rw [hb]; rfl)
    by_cases h2 : Y.length = 1
    · obtain ⟨y, rfl⟩ := List.length_eq_one_iff.1 h2
      exact sym_right P X R D y hD (by omega) sX g cap N hN hL hm w hA a m b ha hmm (by rw [hb]; rfl)
    by_cases hw : (a + b) / 2 < m
    · exact sym_gt n (sym_ok n) P X Y R D hD (by omega) (by omega) (by omega) sX sY g cap N hN hL hm w hA a m b ha hmm hb hw
    · exact sym_le n (sym_ok n) P X Y R D hD (by omega) (by omega) (by omega) sX sY g cap N hN hL hm w hA a m b ha hmm hb (by omega)
theorem sym_any (P X Y R D : List Ch) (hD : D = P ++ (X ++ (Y ++ R))) (hX : 0 < X.length) (hY : 0 < Y.length) (sX : Srt key lt X) (sY : Srt key lt Y) (g cap N : Nat) (hN : N = D.length) (hL : N ≤ cap) (hm : N ≤ 281474976710656) (w : World) (hA : Arr enc 2 w g D) (a m b : Int) (ha : a = (P.length : Int)) (hmm : m = (P.length : Int) + X.length) (hb : b = (P.length : Int) + X.length + Y.length) :
    Calls Tryd.prog 101 #[.slice (some ⟨g, 0, none⟩) N cap, .int .i64 a, .int .i64 m, .int .i64 b, CMP] w fun e w' => e = .returned (.tuple #[]) ∧ Merged P X Y R g w w' :=
  sym_ok (X.length + Y.length + 1) P X Y R D hD hX hY (by omega) sX sY g cap N hN hL hm w hA a m b ha hmm hb
end Go.Proofs.YtjkapmghifglcaaDoor.Sb
/- What the rounds of package slices' stableCmpFunc come to: stretches of one length, each in order, merged two by two. -/
namespace Go.Proofs.YtjkapmghifglcaaDoor.Sb
set_option linter.unusedVariables false
open Go.ChangeShapes Go.WideShapes Go.ChangeAt Go.RowKit
open Ar Rg St
def Fl (k : Nat) (B : List Ch) : Prop := ∃ cs : List (List Ch), B = cs.flatten ∧ ∀ c ∈ cs, c.length = k ∧ Srt key lt c
def Ck (k : Nat) (C : List Ch) : Prop := ∃ (ds : List (List Ch)) (T : List Ch), C = ds.flatten ++ T ∧ (∀ c ∈ ds, c.length = k ∧ Srt key lt c) ∧ T.length < k ∧ Srt key lt T
theorem Fl.nil (k : Nat) : Fl k [] := ⟨[], rfl, by simp⟩
theorem Fl.snoc {k : Nat} {B Z : List Ch} (h : Fl k B) (hz : Z.length = k) (hs : Srt key lt Z) : Fl k (B ++ Z) := by
  obtain ⟨cs, rfl, hc⟩ := h
  refine ⟨cs ++ [Z], by simp, ?_⟩
  intro c hcm
  rcases List.mem_append.1 hcm with h | h
  · exact hc c h
  · simp at h; subst h; exact ⟨hz, hs⟩
theorem Fl.ck {k : Nat} {B Z : List Ch} (h : Fl k B) (hz : Z.length < k) (hs : Srt key lt Z) : Ck k (B ++ Z) := by
  obtain ⟨cs, rfl, hc⟩ := h
  exact ⟨cs, Z, rfl, hc, hz, hs⟩
theorem Ck.two {k : Nat} {C : List Ch} (h : Ck k C) (hl : 2 * k ≤ C.length) : ∃ X Y C', C = X ++ (Y ++ C') ∧ X.length = k ∧ Y.length = k ∧ Srt key lt X ∧ Srt key lt Y ∧ Ck k C' := by
  obtain ⟨ds, T, rfl, hc, ht, hs⟩ := h
  match ds, hc, hl with
  | [], _, hl => simp at hl; omega
  | [X], hc, hl =>
    have := hc X (by simp)
    simp at hl; omega
  | X :: Y :: ds, hc, hl =>
    have h1 := hc X (by simp)
    have h2 := hc Y (by simp)
    exact ⟨X, Y, ds.flatten ++ T, by simp, h1.1, h2.1, h1.2, h2.2, ds, T, rfl, fun c h => hc c (by simp [h]), ht, hs⟩
theorem Ck.one {k : Nat} {C : List Ch} (h : Ck k C) (hl : k < C.length) (hl2 : C.length < 2 * k) : ∃ X Y, C = X ++ Y ∧ X.length = k ∧ 0 < Y.length ∧ Srt key lt X ∧ Srt key lt Y := by
  obtain ⟨ds, T, rfl, hc, ht, hs⟩ := h
  match ds, hc, hl, hl2 with
  | [], _, hl, _ => simp at hl; omega
  | [X], hc, hl, _ =>
    have := hc X (by simp)
    exact ⟨X, T, by simp, this.1, by simp at hl; omega, this.2, hs⟩
  | X :: Y :: ds, hc, _, hl =>
    have h1 := hc X (by simp)
    have h2 := hc Y (by simp)
    simp at hl; omega
theorem Ck.few {k : Nat} {C : List Ch} (h : Ck k C) (hl : C.length ≤ k) : Srt key lt C := by
  obtain ⟨ds, T, rfl, hc, ht, hs⟩ := h
  match ds, hc, hl with
  | [], _, _ => simpa using hs
  | [X], hc, hl =>
    have := hc X (by simp)
    have hT : T = [] := List.eq_nil_of_length_eq_zero (by simp at hl; omega)
    subst hT
    simpa using this.2
  | X :: Y :: ds, hc, hl =>
    have h1 := hc X (by simp)
    have h2 := hc Y (by simp)
    simp at hl; omega
def L1 (D : List Ch) (g : Nat) (w : World) (a : Nat) (wr : World) : Prop := ∃ A : List Ch, Arr enc 2 wr g (A ++ D.drop a) ∧ A.length = a ∧ a ≤ D.length ∧ Fl 20 A ∧ Sm key (D.take a) A ∧ w.grownBy wr (some g)
def L2 (D : List Ch) (g : Nat) (w : World) (bs : Nat) (wr : World) : Prop := ∃ A : List Ch, Arr enc 2 wr g A ∧ A.length = D.length ∧ Ck bs A ∧ Sm key D A ∧ w.grownBy wr (some g)
def L3 (D : List Ch) (g : Nat) (w : World) (bs a : Nat) (wr : World) : Prop := ∃ B C : List Ch, Arr enc 2 wr g (B ++ C) ∧ B.length = a ∧ B.length + C.length = D.length ∧ Fl (2 * bs) B ∧ Ck bs C ∧ Sm key D (B ++ C) ∧ w.grownBy wr (some g)
/-- sorted, of each key the same -/
def Done (D : List Ch) (g : Nat) (w wr : World) : Prop := ∃ A : List Ch, Arr enc 2 wr g A ∧ A.length = D.length ∧ Srt key lt A ∧ Sm key D A ∧ w.grownBy wr (some g)
section
variable {D : List Ch} {g N : Nat} {w wr : World}
theorem l1_start (hA : Arr enc 2 w g D) : L1 D g w 0 w := ⟨[], by simpa using hA, rfl, Nat.zero_le _, Fl.nil _, by simpa using Sm.refl _, grown_refl _ _⟩
set_option maxRecDepth 100000 in
theorem insertion_none (a : Nat) (V F : Value) (hm : a ≤ 281474976710656) (w : World) :
    Calls Tryd.prog 100 #[V, .int .i64 a, .int .i64 a, F] w fun e w' => e = .returned (.tuple #[]) ∧ w = w' := by
  go_enter Tryd.func100, Tryd.ntmps100
  go_wp2_with fail
  go_loopw [8] (fun v wr => v = .int .i64 ((a : Int) + 1) ∧ w = wr) (fun v _ => 0)
  case atStart => exact ⟨rfl, rfl⟩
  case round =>
    obtain ⟨rfl, rfl⟩ := hrel
    have h1 : ¬ ((a : Int) + 1 < a) := by omega
    go_wp2
    exact ⟨rfl, _, results_none rfl _ _ _, rfl, rfl⟩
theorem l1_step (hN : N = D.length) (cap : Nat) (hL : N ≤ cap) (hm : N ≤ 281474976710656) {a : Nat} (h : L1 D g w a wr) (ha : a + 20 ≤ N) (b : Int) (hb : b = (a : Int) + 20) :
    Calls Tryd.prog 100 #[.slice (some ⟨g, 0, none⟩) N cap, .int .i64 a, .int .i64 b, CMP] wr fun e w' => e = .returned (.tuple #[]) ∧ L1 D g w (a + 20) w' := by
  obtain ⟨A, h1, h2, h3, h4, h5, h6⟩ := h
  have l1 : ((D.drop a).take 20).length = 20 := by rw [List.length_take, List.length_drop]; omega
  have e1 : D.drop a = (D.drop a).take 20 ++ D.drop (a + 20) := by rw [← List.drop_drop, List.take_append_drop]
  refine (insertion_any A ((D.drop a).take 20) (D.drop (a + 20)) (A ++ D.drop a) (by rw [← e1]) (by omega) g cap N (by rw [List.length_append, List.length_drop]; omega) hL hm wr h1 _ _ (by rw [h2]) (by rw [hb, l1, h2]; rfl)).mono fun e w' h => ⟨h.1, ?_⟩
  obtain ⟨S', s1, s2, s3, s4, s5⟩ := h.2
  refine ⟨A ++ S', by rw [List.append_assoc]; exact s1, by rw [List.length_append]; omega, by omega, Fl.snoc h4 (by omega) s3, ?_, grown_trans h6 s5⟩
  rw [List.take_add]
  exact Sm.append h5 s4
theorem l1_last (hN : N = D.length) (cap : Nat) (hL : N ≤ cap) (hm : N ≤ 281474976710656) {a : Nat} (h : L1 D g w a wr) (ha : N < a + 20) :
    Calls Tryd.prog 100 #[.slice (some ⟨g, 0, none⟩) N cap, .int .i64 a, .int .i64 N, CMP] wr fun e w' => e = .returned (.tuple #[]) ∧ L2 D g w 20 w' := by
  obtain ⟨A, h1, h2, h3, h4, h5, h6⟩ := h
  by_cases h0 : a = N
  · subst h0
    refine (insertion_none a _ _ (by omega) wr).mono fun e w' h => ⟨h.1, ?_⟩
    obtain ⟨_, rfl⟩ := h
    have e0 : D.drop a = [] := List.drop_eq_nil_of_le (by omega)
    have e1 : D.take a = D := List.take_of_length_le (by omega)
    rw [e0, List.append_nil] at h1
    rw [e1] at h5
    have := Fl.ck h4 (Z := []) (by simp) Srt.nil
    rw [List.append_nil] at this
    exact ⟨A, h1, by omega, this, h5, h6⟩
  · refine (insertion_any A (D.drop a) [] (A ++ D.drop a) (by simp) (by rw [List.length_drop]; omega) g cap N (by rw [List.length_append, List.length_drop]; omega) hL hm wr h1 _ _ (by rw [h2]) (by rw [List.length_drop, h2]; omega)).mono fun e w' h => ⟨h.1, ?_⟩
    obtain ⟨S', s1, s2, s3, s4, s5⟩ := h.2
    rw [List.length_drop] at s2
    rw [List.append_nil] at s1
    refine ⟨A ++ S', s1, by rw [List.length_append]; omega, Fl.ck h4 (by omega) s3, ?_, grown_trans h6 s5⟩
    have := Sm.append h5 s4
    rwa [List.take_append_drop] at this
theorem l2_in {bs : Nat} (h : L2 D g w bs wr) : L3 D g w bs 0 wr := by
  obtain ⟨A, h1, h2, h3, h4, h5⟩ := h
  exact ⟨[], A, h1, rfl, by simpa using h2, Fl.nil _, h3, h4, h5⟩
theorem l2_end {bs : Nat} (h : L2 D g w bs wr) (hb : D.length ≤ bs) : Done D g w wr := by
  obtain ⟨A, h1, h2, h3, h4, h5⟩ := h
  exact ⟨A, h1, h2, h3.few (by omega), h4, h5⟩
theorem l3_step (hN : N = D.length) (cap : Nat) (hL : N ≤ cap) (hm : N ≤ 281474976710656) {bs a : Nat} (h : L3 D g w bs a wr) (h0 : 0 < bs) (ha : a + 2 * bs ≤ N) (m b : Int) (hmm : m = (a : Int) + bs) (hb : b = (a : Int) + 2 * bs) :
    Calls Tryd.prog 101 #[.slice (some ⟨g, 0, none⟩) N cap, .int .i64 a, .int .i64 m, .int .i64 b, CMP] wr fun e w' => e = .returned (.tuple #[]) ∧ L3 D g w bs (a + 2 * bs) w' := by
  obtain ⟨B, C, h1, h2, h3, h4, h5, h6, h7⟩ := h
  obtain ⟨X, Y, C', rfl, x1, y1, x2, y2, c1⟩ := h5.two (by omega)
  simp only [List.length_append] at h3
  refine (sym_any B X Y C' _ rfl (by omega) (by omega) x2 y2 g cap N (by simp only [List.length_append]; omega) hL hm wr h1 _ _ _ (by rw [h2]) (by rw [hmm, h2, x1]) (by rw [hb, h2, x1, y1]; omega)).mono fun e w' h => ⟨h.1, ?_⟩
  obtain ⟨Z, z1, z2, z3, z4, z5⟩ := h.2
  refine ⟨B ++ Z, C', by rw [List.append_assoc]; exact z1, by rw [List.length_append]; omega, by rw [List.length_append]; omega, Fl.snoc h4 (by omega) z3, c1, ?_, grown_trans h7 z5⟩
  refine h6.trans ?_
  rw [List.append_assoc, ← List.append_assoc X]
  exact Sm.append (Sm.refl _) (Sm.append z4 (Sm.refl _))
theorem l3_last (hN : N = D.length) (cap : Nat) (hL : N ≤ cap) (hm : N ≤ 281474976710656) {bs a : Nat} (h : L3 D g w bs a wr) (h0 : 0 < bs) (ha : N < a + 2 * bs) (m : Int) (hmm : m = (a : Int) + bs) (ha2 : a + bs < N) :
    Calls Tryd.prog 101 #[.slice (some ⟨g, 0, none⟩) N cap, .int .i64 a, .int .i64 m, .int .i64 N, CMP] wr fun e w' => e = .returned (.tuple #[]) ∧ L2 D g w (2 * bs) w' := by
  obtain ⟨B, C, h1, h2, h3, h4, h5, h6, h7⟩ := h
  obtain ⟨X, Y, rfl, x1, y1, x2, y2⟩ := h5.one (by omega) (by omega)
  simp only [List.length_append] at h3
  refine (sym_any B X Y [] (B ++ (X ++ Y)) (by simp) (by omega) (by omega) x2 y2 g cap N (by simp only [List.length_append]; omega) hL hm wr h1 _ _ _ (by rw [h2]) (by rw [hmm, h2, x1]) (by omega)).mono fun e w' h => ⟨h.1, ?_⟩
  obtain ⟨Z, z1, z2, z3, z4, z5⟩ := h.2
  rw [List.append_nil] at z1
  refine ⟨B ++ Z, z1, by rw [List.length_append]; omega, Fl.ck h4 (by omega) z3, h6.trans (Sm.append (Sm.refl _) z4), grown_trans h7 z5⟩
theorem l3_few (hN : N = D.length) {bs a : Nat} (h : L3 D g w bs a wr) (h0 : 0 < bs) (ha : N ≤ a + bs) : L2 D g w (2 * bs) wr := by
  obtain ⟨B, C, h1, h2, h3, h4, h5, h6, h7⟩ := h
  exact ⟨B ++ C, h1, by rw [List.length_append]; exact h3, Fl.ck h4 (by omega) (h5.few (by omega)), h6, h7⟩
theorem L3.le (hN : N = D.length) {bs a : Nat} (h : L3 D g w bs a wr) : a ≤ N := by
  obtain ⟨B, C, h1, h2, h3, _⟩ := h
  omega
theorem L1.le (hN : N = D.length) {a : Nat} (h : L1 D g w a wr) : a ≤ N := by
  obtain ⟨A, h1, h2, h3, _⟩ := h
  omega
end
end Go.Proofs.YtjkapmghifglcaaDoor.Sb
/- Contract of package slices' SortStableFunc at changes: the list is put into order by key; those of one key stay as they stood. -/
namespace Go.Proofs.YtjkapmghifglcaaDoor.Sb
set_option linter.unusedVariables false
open Go.ChangeShapes Go.WideShapes Go.ChangeAt Go.RowKit
open Ar Rg St
set_option maxRecDepth 100000 in
set_option maxHeartbeats 1000000 in
theorem stable_any (D : List Ch) (g cap N : Nat) (hN : N = D.length) (hL : N ≤ cap) (hm : N ≤ 281474976710656) (w : World) (hA : Arr enc 2 w g D) :
    Calls Tryd.prog 85 #[.slice (some ⟨g, 0, none⟩) N cap, .int .i64 N, CMP] w fun e w' => e = .returned (.tuple #[]) ∧ Done D g w w' := by
  have HN := Lib.hid hN
  have H1 := Lib.hid (l1_start hA)
  clear hN hA
  unfold CMP
  go_enter Tryd.func85, Tryd.ntmps85
  go_wp2_with fail
  go_loopw [7, 8] (fun v u wr => ∃ a : Nat, v = .int .i64 a ∧ u = .int .i64 ((a : Int) + 20) ∧ Hid (L1 D g w a wr)) (fun v u _ => N + 40 - (intOf u).toNat)
  case atStart => exact ⟨0, by go_num, by go_num, H1.out⟩
  case round =>
    clear H1
    obtain ⟨a, rfl, rfl, h1⟩ := hrel
    have ha := (Hid.out h1).le HN.out
    by_cases hb : a + 20 ≤ N
    · have hb1 : (a : Int) + 20 ≤ (N : Int) := by omega
      go_wp2_with fail
      go_at_call 100
      refine (l1_step HN.out cap hL hm (Hid.out h1) hb _ rfl).mono ?_
      rintro e w1 ⟨rfl, hs⟩
      have HS1 := Lib.hid hs
      clear hs h1
      go_wp2
      exact ⟨⟨a + 20, by go_num, by go_num, HS1.out⟩, by simp [intOf] <;> omega⟩
    · have hb1 : (N : Int) < (a : Int) + 20 := by omega
      go_wp2_with fail
      go_at_call 100
      refine (l1_last HN.out cap hL hm (Hid.out h1) (by omega)).mono ?_
      rintro e w1 ⟨rfl, hs⟩
      have HS1 := Lib.hid hs
      clear hs h1 hb hb1
      go_wp2_with fail
      go_loopw [6] (fun v wr => ∃ bs : Nat, v = .int .i64 bs ∧ 0 < bs ∧ bs ≤ 2 * N + 20 ∧ Hid (L2 D g w bs wr)) (fun v _ => N - (intOf v).toNat)
      case atStart => exact ⟨20, by go_num, by omega, by omega, HS1.out⟩
      case round =>
        clear HS1
        obtain ⟨bs, rfl, c1, c2, h2⟩ := hrel
        by_cases hlt : bs < N
        · have HS2 := Lib.hid (l2_in (Hid.out h2))
          clear h2
          go_wp2_with fail
          go_loopw [7, 8] (fun v u wr => ∃ a : Nat, v = .int .i64 a ∧ u = .int .i64 ((a : Int) + 2 * (bs : Int)) ∧ Hid (L3 D g w bs a wr)) (fun v u _ => N + 4 * bs - (intOf u).toNat)
          case atStart => exact ⟨0, by go_num, by go_num, HS2.out⟩
          case round =>
            clear HS2
            obtain ⟨a2, rfl, rfl, h3⟩ := hrel
            have ha2 := (Hid.out h3).le HN.out
            by_cases hb : a2 + 2 * bs ≤ N
            · have hb1 : (a2 : Int) + 2 * (bs : Int) ≤ (N : Int) := by omega
              go_wp2_with fail
              go_at_call 101
              refine (l3_step HN.out cap hL hm (Hid.out h3) c1 hb _ _ rfl rfl).mono ?_
              rintro e w1 ⟨rfl, hs⟩
              have HS1 := Lib.hid hs
              clear hs h3
              go_wp2
              exact ⟨⟨a2 + 2 * bs, by go_num, by go_num, HS1.out⟩, by simp [intOf] <;> omega⟩
            · have hb1 : (N : Int) < (a2 : Int) + 2 * (bs : Int) := by omega
              by_cases hl : a2 + bs < N
              · have hl1 : (a2 : Int) + (bs : Int) < (N : Int) := by omega
                go_wp2_with fail
                go_at_call 101
                refine (l3_last HN.out cap hL hm (Hid.out h3) c1 (by omega) _ rfl hl).mono ?_
                rintro e w1 ⟨rfl, hs⟩
                have HS1 := Lib.hid hs
                clear hs h3
                go_wp2
                exact ⟨⟨2 * bs, by go_num, by omega, by omega, HS1.out⟩, by simp [intOf] <;> omega⟩
              · have hl1 : (N : Int) ≤ (a2 : Int) + (bs : Int) := by omega
                have HS1 := Lib.hid (l3_few HN.out (Hid.out h3) c1 (by omega))
                clear h3
                go_wp2
                exact ⟨⟨2 * bs, by go_num, by omega, by omega, HS1.out⟩, by simp [intOf] <;> omega⟩
        · have HS2 := Lib.hid (l2_end (Hid.out h2) (by rw [← HN.out]; omega))
          clear h2
          go_wp2
          exact ⟨rfl, _, results_none rfl _ _ _, rfl, HS2.out⟩
theorem sort_any (D : List Ch) (g cap N : Nat) (hN : N = D.length) (hL : N ≤ cap) (hm : N ≤ 281474976710656) (w : World) (hA : Arr enc 2 w g D) :
    Calls Tryd.prog 69 #[.slice (some ⟨g, 0, none⟩) N cap, CMP] w fun e w' => e = .returned (.tuple #[]) ∧ Done D g w w' := by
  have HC := Lib.hid (stable_any D g cap N hN hL hm w hA)
  clear hA hN
  unfold CMP at *
  go_enter Tryd.func69, Tryd.ntmps69
  go_wp2_with fail
  go_at_call 85
  refine HC.out.mono ?_
  rintro e w1 ⟨rfl, hs⟩
  have HS1 := Lib.hid hs
  clear hs HC
  go_wp2
  exact ⟨rfl, _, results_none rfl _ _ _, rfl, HS1.out⟩
end Go.Proofs.YtjkapmghifglcaaDoor.Sb
