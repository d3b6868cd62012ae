/- Contract of package slices' symMergeCmpFunc at changes, where the second stretch has one element alone. -/
import Derived.Test.YtjkmfonngbendaaGreatDoorChF
namespace Go.Proofs.YtjkmfonngbendaaGreatDoor.Sc
set_option linter.unusedVariables false
set_option maxRecDepth 100000
open Go.ChangeShapes Go.WideShapes Go.ChangeAt Go.RowKit
open Ar Rg St
def GB (D : List Ch) (y : Ch) (c : Nat) : Bool := match D[c]? with | some z => lt (key y) (key z) | none => false
theorem GB_at {D : List Ch} {y z : Ch} {c : Nat} (h : D[c]? = some z) : GB D y c = lt (key y) (key z) := by unfold GB; rw [h]
set_option maxRecDepth 100000 in
set_option maxHeartbeats 2000000 in
theorem sym_right (P X R D : List Ch) (y : Ch) (hD : D = P ++ (X ++ (y :: R))) (hX : 1 < X.length) (hs : Srt key lt X) (g cap N : Nat) (hN : N = D.length) (hL : N ≤ cap) (hm : N ≤ 281474976710656) (w : World) (hA : Arr enc 3 w g D) (a m b : Int) (ha : a = (P.length : Int)) (hmm : m = (P.length : Int) + X.length) (hb : b = (P.length : Int) + X.length + 1) :
    Calls Tryz.prog 172 #[.slice (some ⟨g, 0, none⟩) N cap, .int .i64 a, .int .i64 m, .int .i64 b, CMP] w fun e w' => e = .returned (.tuple #[]) ∧ Merged P X [y] R g w w' := by
  obtain ⟨A0, hA0⟩ : ∃ M : Nat, M = P.length := ⟨_, rfl⟩
  obtain ⟨xl, hxl⟩ : ∃ n, n = X.length := ⟨_, rfl⟩
  obtain ⟨M, hM⟩ : ∃ M : Nat, M = A0 + xl := ⟨_, rfl⟩
  have hlen : M + 1 ≤ N := by rw [hN, hD, hM, hA0, hxl]; simp only [List.length_append, List.length_cons]; omega
  have hDm : D = mv P X R y X.length := by rw [mv_last]; exact hD
  have hyM : D[M]? = some y := by
    rw [hD, ← List.append_assoc]; exact get_mid _ _ _ _ (by rw [List.length_append, hM, hA0, hxl])
  have HDM := Lib.hid hDm
  have HA := Lib.hid hA
  have HN := Lib.hid hN
  have HS := Lib.hid hs
  rw [← hxl] at hmm hb hX
  rw [← hA0] at ha hmm hb
  have em : m = (M : Int) := by omega
  have eb : b = (M : Int) + 1 := by omega
  have HA0 := Lib.hid hA0
  have HXL := Lib.hid hxl
  have hM1 : A0 + xl ≤ M := by omega
  have hM2 : M ≤ A0 + xl := by omega
  clear hA hD hDm hN hs hA0 hxl hmm hb hM
  subst ha em eb
  have hq0 : (((M : Int) - A0) == 1) = false := by rw [beq_eq_false_iff_ne]; omega
  have hq : (((M : Int) + 1 - M) == 1) = true := by rw [beq_iff_eq]; omega
  unfold CMP
  go_enter Tryz.func172, Tryz.ntmps172
  go_wp2_with fail
  go_loopw [14, 15] (fun v u wr => ∃ lo hi : Nat, v = .int .i64 lo ∧ u = .int .i64 hi ∧ Hid (Bs (GB D y) A0 M lo hi) ∧ Hid (Arr enc 3 wr g D) ∧ Hid (w.grownBy wr (some g))) (fun v u _ => (intOf u).toNat - (intOf v).toNat)
  case atStart => exact ⟨A0, M, by go_num, by go_num, Bs.start _ (by omega), HA.out, grown_refl _ _⟩
  case round =>
    obtain ⟨lo, hi, rfl, rfl, hbs, hAr, hgr⟩ := hrel
    have hbd := Hid.out hbs
    obtain ⟨n1, n2, n3, _⟩ := hbd
    by_cases hlt : lo < hi
    · obtain ⟨h, hh⟩ : ∃ h : Nat, ((lo : Int) + (hi : Int)) / 2 = (h : Int) := ⟨(lo + hi) / 2, by omega⟩
      have n4 : lo ≤ h := by omega
      have n5 : h < hi := by omega
      have n6 : (0 : Int) ≤ (h : Int) := by omega
      have n7 : (h : Int) < (N : Int) := by omega
      have n8 : (0 : Int) ≤ (M : Int) := by omega
      have n9 : (M : Int) < (N : Int) := by omega
      obtain ⟨z, hz⟩ : ∃ z, D[h]? = some z := ⟨_, List.getElem?_eq_getElem (by rw [← HN.out]; omega)⟩
      obtain ⟨c, hcf⟩ : ∃ c, cf y z = c := ⟨_, rfl⟩
      have hcl := cf_lt y z
      rw [hcf] at hcl
      by_cases hb : lt (key y) (key z) = true
      · have hc0 : c < 0 := hcl.2 hb
        have HDN := Lib.hid ((Hid.out hbs).down n4 n5 (by rw [GB_at hz, hb]))
        clear hcl
        go_wp2_with fail
        refine wp_region_held_drew (S := fun w' => Arr enc 3 w' g D ∧ w.grownBy w' (some g)) (by kernel_rfl) ⟨(Hid.out hAr).drew, grown_trans (Hid.out hgr) (grown_drew _ _)⟩ (fun hHeld => ?_)
        refine take_at 0 92 (.func (.func 84) #[] #[]) rfl (by rfl) (by kernel_rfl) (by kernel_rfl) (by kernel_rfl) (fun _ _ _ h => h) (Or.inl ⟨by rfl, fun w' hSw => by go_simp⟩) (by assumption) ?_
        simp only [List.setIfInBounds_toArray, List.set_cons_zero, List.set_cons_succ]
        refine take_at 1 93 (.slice (some ⟨g, 0, none⟩) N cap) rfl (by rfl) (by kernel_rfl) (by kernel_rfl) (by kernel_rfl) (fun _ _ _ h => h) (Or.inl ⟨by rfl, fun w' hSw => by go_simp⟩) (by assumption) ?_
        simp only [List.setIfInBounds_toArray, List.set_cons_zero, List.set_cons_succ]
        refine take_at 2 94 (.int .i64 M) rfl (by rfl) (by kernel_rfl) (by kernel_rfl) (by kernel_rfl) (fun _ _ _ h => h) (Or.inl ⟨by rfl, fun w' hSw => by go_simp⟩) (by assumption) ?_
        simp only [List.setIfInBounds_toArray, List.set_cons_zero, List.set_cons_succ]
        refine take_at 3 95 (.pointer (some ⟨g, M * 3, none⟩)) rfl (by rfl) (by kernel_rfl) (by kernel_rfl) (by kernel_rfl) (fun _ _ _ h => h) (Or.inl ⟨by rfl, fun w' hSw => by go_simp⟩) (by assumption) ?_
        simp only [List.setIfInBounds_toArray, List.set_cons_zero, List.set_cons_succ]
        refine take_at 4 96 (.agg (enc y).toArray) rfl (by rfl) (by kernel_rfl) (by kernel_rfl) (by kernel_rfl) (fun _ _ _ h => h) (yieldsIf_load_mid (by rfl) _ _ rfl _ _ rfl (enc y) _ (fun w' hSw => hSw.1.range hyM) Tryz.underlying41 rfl (by rw [enc_len]; exact infoE)) (by assumption) ?_
        simp only [List.setIfInBounds_toArray, List.set_cons_zero, List.set_cons_succ]
        refine take_at 5 97 (.slice (some ⟨g, 0, none⟩) N cap) rfl (by rfl) (by kernel_rfl) (by kernel_rfl) (by kernel_rfl) (fun _ _ _ h => h) (Or.inl ⟨by rfl, fun w' hSw => by go_simp⟩) (by assumption) ?_
        simp only [List.setIfInBounds_toArray, List.set_cons_zero, List.set_cons_succ]
        refine take_at 6 98 (.int .i64 h) rfl (by rfl) (by kernel_rfl) (by kernel_rfl) (by kernel_rfl) (fun _ _ _ h => h) (Or.inl ⟨by rfl, fun w' hSw => by go_simp⟩) (by assumption) ?_
        simp only [List.setIfInBounds_toArray, List.set_cons_zero, List.set_cons_succ]
        refine take_at 7 99 (.pointer (some ⟨g, h * 3, none⟩)) rfl (by rfl) (by kernel_rfl) (by kernel_rfl) (by kernel_rfl) (fun _ _ _ h => h) (Or.inl ⟨by rfl, fun w' hSw => by go_simp⟩) (by assumption) ?_
        simp only [List.setIfInBounds_toArray, List.set_cons_zero, List.set_cons_succ]
        refine take_at 8 100 (.agg (enc z).toArray) rfl (by rfl) (by kernel_rfl) (by kernel_rfl) (by kernel_rfl) (fun _ _ _ h => h) (yieldsIf_load_mid (by rfl) _ _ rfl _ _ rfl (enc z) _ (fun w' hSw => hSw.1.range hz) Tryz.underlying41 rfl (by rw [enc_len]; exact infoE)) (by assumption) ?_
        simp only [List.setIfInBounds_toArray, List.set_cons_zero, List.set_cons_succ]
        refine wpAnyH_ready (rs := [9]) (by kernel_rfl) (by simp) ?_
        refine AllReadyH.cons rfl (fun K hK => ?_) AllReadyH.nil
        go_simp
        go_wp2_with (go_at_call 84; refine (cmp_at y z c hcf _).mono ?_; rintro e w5 ⟨rfl, hg5⟩)
        refine hK.out _ _ ⟨hHeld.1.grown0 enc_len (by omega) hg5, grown_trans hHeld.2 (grown_weak hg5 _)⟩ (fun hHeld => ?_)
        clear hK K
        refine take_at 10 102 (.bool true) rfl (by rfl) (by kernel_rfl) (by kernel_rfl) (by kernel_rfl) (fun _ _ _ h => h) (Or.inl ⟨by rfl, fun w' hSw => by go_simp⟩) (by assumption) ?_
        simp only [List.setIfInBounds_toArray, List.set_cons_zero, List.set_cons_succ]
        refine take_at 11 103 (.bool false) rfl (by rfl) (by kernel_rfl) (by kernel_rfl) (by kernel_rfl) (fun _ _ _ h => h) (Or.inl ⟨by rfl, fun w' hSw => by go_simp⟩) (by assumption) ?_
        simp only [List.setIfInBounds_toArray, List.set_cons_zero, List.set_cons_succ]
        refine wpAnyH_done (by kernel_rfl) ?_ _
        obtain ⟨hH1, hH2⟩ := hHeld
        have HH1 := Lib.hid hH1
        have HH2 := Lib.hid hH2
        clear hH1 hH2 hAr hgr
        go_wp2
        exact ⟨⟨lo, h, rfl, rfl, HDN.out, HH1.out, HH2.out⟩, by simp [intOf] <;> omega⟩
      · have hc1 : ¬ c < 0 := fun e => hb (hcl.1 e)
        have hc0 : 0 ≤ c := by omega
        have HUP := Lib.hid ((Hid.out hbs).up n4 n5 (by rw [GB_at hz]; simpa using hb))
        clear hcl hc1
        go_wp2_with fail
        refine wp_region_held_drew (S := fun w' => Arr enc 3 w' g D ∧ w.grownBy w' (some g)) (by kernel_rfl) ⟨(Hid.out hAr).drew, grown_trans (Hid.out hgr) (grown_drew _ _)⟩ (fun hHeld => ?_)
        refine take_at 0 92 (.func (.func 84) #[] #[]) rfl (by rfl) (by kernel_rfl) (by kernel_rfl) (by kernel_rfl) (fun _ _ _ h => h) (Or.inl ⟨by rfl, fun w' hSw => by go_simp⟩) (by assumption) ?_
        simp only [List.setIfInBounds_toArray, List.set_cons_zero, List.set_cons_succ]
        refine take_at 1 93 (.slice (some ⟨g, 0, none⟩) N cap) rfl (by rfl) (by kernel_rfl) (by kernel_rfl) (by kernel_rfl) (fun _ _ _ h => h) (Or.inl ⟨by rfl, fun w' hSw => by go_simp⟩) (by assumption) ?_
        simp only [List.setIfInBounds_toArray, List.set_cons_zero, List.set_cons_succ]
        refine take_at 2 94 (.int .i64 M) rfl (by rfl) (by kernel_rfl) (by kernel_rfl) (by kernel_rfl) (fun _ _ _ h => h) (Or.inl ⟨by rfl, fun w' hSw => by go_simp⟩) (by assumption) ?_
        simp only [List.setIfInBounds_toArray, List.set_cons_zero, List.set_cons_succ]
        refine take_at 3 95 (.pointer (some ⟨g, M * 3, none⟩)) rfl (by rfl) (by kernel_rfl) (by kernel_rfl) (by kernel_rfl) (fun _ _ _ h => h) (Or.inl ⟨by rfl, fun w' hSw => by go_simp⟩) (by assumption) ?_
        simp only [List.setIfInBounds_toArray, List.set_cons_zero, List.set_cons_succ]
        refine take_at 4 96 (.agg (enc y).toArray) rfl (by rfl) (by kernel_rfl) (by kernel_rfl) (by kernel_rfl) (fun _ _ _ h => h) (yieldsIf_load_mid (by rfl) _ _ rfl _ _ rfl (enc y) _ (fun w' hSw => hSw.1.range hyM) Tryz.underlying41 rfl (by rw [enc_len]; exact infoE)) (by assumption) ?_
        simp only [List.setIfInBounds_toArray, List.set_cons_zero, List.set_cons_succ]
        refine take_at 5 97 (.slice (some ⟨g, 0, none⟩) N cap) rfl (by rfl) (by kernel_rfl) (by kernel_rfl) (by kernel_rfl) (fun _ _ _ h => h) (Or.inl ⟨by rfl, fun w' hSw => by go_simp⟩) (by assumption) ?_
        simp only [List.setIfInBounds_toArray, List.set_cons_zero, List.set_cons_succ]
        refine take_at 6 98 (.int .i64 h) rfl (by rfl) (by kernel_rfl) (by kernel_rfl) (by kernel_rfl) (fun _ _ _ h => h) (Or.inl ⟨by rfl, fun w' hSw => by go_simp⟩) (by assumption) ?_
        simp only [List.setIfInBounds_toArray, List.set_cons_zero, List.set_cons_succ]
        refine take_at 7 99 (.pointer (some ⟨g, h * 3, none⟩)) rfl (by rfl) (by kernel_rfl) (by kernel_rfl) (by kernel_rfl) (fun _ _ _ h => h) (Or.inl ⟨by rfl, fun w' hSw => by go_simp⟩) (by assumption) ?_
        simp only [List.setIfInBounds_toArray, List.set_cons_zero, List.set_cons_succ]
        refine take_at 8 100 (.agg (enc z).toArray) rfl (by rfl) (by kernel_rfl) (by kernel_rfl) (by kernel_rfl) (fun _ _ _ h => h) (yieldsIf_load_mid (by rfl) _ _ rfl _ _ rfl (enc z) _ (fun w' hSw => hSw.1.range hz) Tryz.underlying41 rfl (by rw [enc_len]; exact infoE)) (by assumption) ?_
        simp only [List.setIfInBounds_toArray, List.set_cons_zero, List.set_cons_succ]
        refine wpAnyH_ready (rs := [9]) (by kernel_rfl) (by simp) ?_
        refine AllReadyH.cons rfl (fun K hK => ?_) AllReadyH.nil
        go_simp
        go_wp2_with (go_at_call 84; refine (cmp_at y z c hcf _).mono ?_; rintro e w5 ⟨rfl, hg5⟩)
        refine hK.out _ _ ⟨hHeld.1.grown0 enc_len (by omega) hg5, grown_trans hHeld.2 (grown_weak hg5 _)⟩ (fun hHeld => ?_)
        clear hK K
        refine take_at 10 102 (.bool false) rfl (by rfl) (by kernel_rfl) (by kernel_rfl) (by kernel_rfl) (fun _ _ _ h => h) (Or.inl ⟨by rfl, fun w' hSw => by go_simp⟩) (by assumption) ?_
        simp only [List.setIfInBounds_toArray, List.set_cons_zero, List.set_cons_succ]
        refine take_at 11 103 (.bool true) rfl (by rfl) (by kernel_rfl) (by kernel_rfl) (by kernel_rfl) (fun _ _ _ h => h) (Or.inl ⟨by rfl, fun w' hSw => by go_simp⟩) (by assumption) ?_
        simp only [List.setIfInBounds_toArray, List.set_cons_zero, List.set_cons_succ]
        refine wpAnyH_done (by kernel_rfl) ?_ _
        obtain ⟨hH1, hH2⟩ := hHeld
        have HH1 := Lib.hid hH1
        have HH2 := Lib.hid hH2
        clear hH1 hH2 hAr hgr
        go_wp2
        exact ⟨⟨h + 1, hi, by go_num, rfl, HUP.out, HH1.out, HH2.out⟩, by simp [intOf] <;> omega⟩
    · obtain rfl : lo = hi := by omega
      obtain ⟨p, rfl⟩ : ∃ p, lo = A0 + p := ⟨lo - A0, by omega⟩
      have hp : p ≤ xl := by omega
      have hm1 : Srt key lt (X.take p ++ y :: X.drop p) ∧ Sm key (X ++ [y]) (X.take p ++ y :: X.drop p) := by
        obtain ⟨_, _, _, g1, g2⟩ := Hid.out hbs
        refine one_right HS.out (take_ge HS.out ?_) (drop_lt HS.out ?_)
        · rcases g1 with g1 | g1
          · left; omega
          · rcases Nat.eq_zero_or_pos p with h0 | h0
            · left; exact h0
            · right
              have hz := mv_old' P X R y (p - 1) (by rw [← HXL.out]; omega)
              rw [← HDM.out, ← HA0.out] at hz
              rw [show A0 + p - 1 = A0 + (p - 1) by omega, GB_at hz] at g1
              exact ⟨_, List.getElem?_eq_getElem (by rw [← HXL.out]; omega), g1⟩
        · rcases g2 with g2 | g2
          · left; rw [← HXL.out]; omega
          · rcases Nat.lt_or_ge p xl with h0 | h0
            · right
              have hz := mv_old' P X R y p (by rw [← HXL.out]; omega)
              rw [← HDM.out, ← HA0.out] at hz
              rw [GB_at hz] at g2
              exact ⟨_, List.getElem?_eq_getElem (by rw [← HXL.out]; omega), g2⟩
            · left; rw [← HXL.out]; omega
      have HM := Lib.hid hm1
      have hAr0 : Arr enc 3 wr g (mv P X R y (M - A0)) := by rw [show M - A0 = X.length by rw [← HXL.out]; omega, ← HDM.out]; exact Hid.out hAr
      have HAr0 := Lib.hid hAr0
      clear hm1 hbs hAr0
      go_wp2_with fail
      go_loopw [17] (fun v wk => ∃ j : Nat, A0 + p ≤ j ∧ j ≤ M ∧ v = .int .i64 (j : Int) ∧ Hid (Arr enc 3 wk g (mv P X R y (j - A0))) ∧ Hid (w.grownBy wk (some g))) (fun v _ => (intOf v).toNat)
      case atStart => exact ⟨M, by omega, Nat.le_refl _, by go_num, HAr0.out, hgr⟩
      case round =>
        clear HAr0 hAr hgr
        obtain ⟨j, hj1, hj2, rfl, hArk, hgk⟩ := hrel
        by_cases htp : A0 + p < j
        · obtain ⟨k, rfl⟩ : ∃ k, j = k + 1 := ⟨j - 1, by omega⟩
          obtain ⟨s, hks⟩ : ∃ s, k = A0 + s := ⟨k - A0, by omega⟩
          have hsX : s < X.length := by rw [← HXL.out]; omega
          obtain ⟨z, hzz⟩ : ∃ z, z = X[s] := ⟨_, rfl⟩
          have hzk := (mv_at' P X R y s hsX).1
          have hyk := (mv_at' P X R y s hsX).2
          have hdn := mv_down P X R y s hsX
          rw [← hzz] at hzk hdn
          rw [← HA0.out, ← hks] at hzk hyk hdn
          have es : k + 1 - A0 = s + 1 := by omega
          rw [es] at hArk
          have hdn := Lib.hid hdn
          have ll : k + 1 < (mv P X R y (s + 1)).length := (List.getElem?_eq_some_iff.1 hyk).1
          have lr : k < ((mv P X R y (s + 1)).set (k + 1) z).length := by rw [List.length_set]; omega
          have q1 : (0 : Int) ≤ (k : Int) + 1 := by omega
          have q2 : (k : Int) + 1 < (N : Int) := by omega
          have q3 : (0 : Int) ≤ (k : Int) := by omega
          have q4 : (k : Int) < (N : Int) := by omega
          have q5 : (A0 : Int) + (p : Int) < (k : Int) + 1 := by omega
          have hks1 : k ≤ A0 + s := by omega
          have hks2 : A0 + s ≤ k := by omega
          clear hzz es hks
          go_wp2_with fail
          refine wp_region_held_drew (S := fun _ => True) (by kernel_rfl) trivial (fun hHeld => ?_)
          refine take_at 0 113 (.slice (some ⟨g, 0, none⟩) N cap) rfl (by rfl) (by kernel_rfl) (by kernel_rfl) (by kernel_rfl) (fun _ _ _ h => h) (Or.inl ⟨by rfl, fun w' hSw => by go_simp⟩) (by assumption) ?_
          simp only [List.setIfInBounds_toArray, List.set_cons_zero, List.set_cons_succ]
          refine take_at 1 114 (.int .i64 ((k : Int) + 1)) rfl (by rfl) (by kernel_rfl) (by kernel_rfl) (by kernel_rfl) (fun _ _ _ h => h) (Or.inl ⟨by rfl, fun w' hSw => by go_simp⟩) (by assumption) ?_
          simp only [List.setIfInBounds_toArray, List.set_cons_zero, List.set_cons_succ]
          refine take_at 2 115 (.slice (some ⟨g, 0, none⟩) N cap) rfl (by rfl) (by kernel_rfl) (by kernel_rfl) (by kernel_rfl) (fun _ _ _ h => h) (Or.inl ⟨by rfl, fun w' hSw => by go_simp⟩) (by assumption) ?_
          simp only [List.setIfInBounds_toArray, List.set_cons_zero, List.set_cons_succ]
          refine take_at 3 116 (.int .i64 ((k : Int) + 1)) rfl (by rfl) (by kernel_rfl) (by kernel_rfl) (by kernel_rfl) (fun _ _ _ h => h) (Or.inl ⟨by rfl, fun w' hSw => by go_simp⟩) (by assumption) ?_
          simp only [List.setIfInBounds_toArray, List.set_cons_zero, List.set_cons_succ]
          refine take_at 4 117 (.int .i64 (k : Int)) rfl (by rfl) (by kernel_rfl) (by kernel_rfl) (by kernel_rfl) (fun _ _ _ h => h) (Or.inl ⟨by rfl, fun w' hSw => by go_simp <;> exact IntWalk.i64_in _ ⟨by omega, by omega⟩⟩) (by assumption) ?_
          simp only [List.setIfInBounds_toArray, List.set_cons_zero, List.set_cons_succ]
          refine take_at 5 118 (.slice (some ⟨g, 0, none⟩) N cap) rfl (by rfl) (by kernel_rfl) (by kernel_rfl) (by kernel_rfl) (fun _ _ _ h => h) (Or.inl ⟨by rfl, fun w' hSw => by go_simp⟩) (by assumption) ?_
          simp only [List.setIfInBounds_toArray, List.set_cons_zero, List.set_cons_succ]
          refine take_at 6 119 (.int .i64 ((k : Int) + 1)) rfl (by rfl) (by kernel_rfl) (by kernel_rfl) (by kernel_rfl) (fun _ _ _ h => h) (Or.inl ⟨by rfl, fun w' hSw => by go_simp⟩) (by assumption) ?_
          simp only [List.setIfInBounds_toArray, List.set_cons_zero, List.set_cons_succ]
          refine take_at 7 120 (.int .i64 (k : Int)) rfl (by rfl) (by kernel_rfl) (by kernel_rfl) (by kernel_rfl) (fun _ _ _ h => h) (Or.inl ⟨by rfl, fun w' hSw => by go_simp <;> exact IntWalk.i64_in _ ⟨by omega, by omega⟩⟩) (by assumption) ?_
          simp only [List.setIfInBounds_toArray, List.set_cons_zero, List.set_cons_succ]
          refine take_at 8 121 (.pointer (some ⟨g, k * 3, none⟩)) rfl (by rfl) (by kernel_rfl) (by kernel_rfl) (by kernel_rfl) (fun _ _ _ h => h) (Or.inl ⟨by rfl, fun w' hSw => by go_simp⟩) (by assumption) ?_
          simp only [List.setIfInBounds_toArray, List.set_cons_zero, List.set_cons_succ]
          refine take_at 10 123 (.slice (some ⟨g, 0, none⟩) N cap) rfl (by rfl) (by kernel_rfl) (by kernel_rfl) (by kernel_rfl) (fun _ _ _ h => h) (Or.inl ⟨by rfl, fun w' hSw => by go_simp⟩) (by assumption) ?_
          simp only [List.setIfInBounds_toArray, List.set_cons_zero, List.set_cons_succ]
          refine take_at 11 124 (.int .i64 ((k : Int) + 1)) rfl (by rfl) (by kernel_rfl) (by kernel_rfl) (by kernel_rfl) (fun _ _ _ h => h) (Or.inl ⟨by rfl, fun w' hSw => by go_simp⟩) (by assumption) ?_
          simp only [List.setIfInBounds_toArray, List.set_cons_zero, List.set_cons_succ]
          refine take_at 12 125 (.pointer (some ⟨g, (k + 1) * 3, none⟩)) rfl (by rfl) (by kernel_rfl) (by kernel_rfl) (by kernel_rfl) (fun _ _ _ h => h) (Or.inl ⟨by rfl, fun w' hSw => by go_simp⟩) (by assumption) ?_
          simp only [List.setIfInBounds_toArray, List.set_cons_zero, List.set_cons_succ]
          have HAd := Lib.hid (Hid.out hArk).drew
          have HGd := Lib.hid (grown_trans (Hid.out hgk) (grown_drew _ (some g)))
          generalize wr.drew = X1 at *
          have H1 := Lib.hid (HAd.out.store enc_len ll z)
          have H2 := Lib.hid (show Arr enc 3 ((X1.setCells g ((k + 1) * 3) (enc z)).setCells g (k * 3) (enc y)) g (mv P X R y (k - A0)) by rw [show k - A0 = s by omega, ← hdn.out]; exact H1.out.store enc_len lr y)
          have G2 := Lib.hid (grown_trans (grown_trans HGd.out (grown_setCells X1 g ((k + 1) * 3) (enc z))) (grown_setCells _ g (k * 3) (enc y)))
          have HX := Lib.hid (HAd.out.range hyk)
          have HZ := Lib.hid (HAd.out.range hzk)
          clear hArk hgk
          refine wpAnyH_ready (rs := [9, 13]) (by kernel_rfl) (by simp) ?_
          refine all_at 9 122 (.agg (enc z).toArray) X1 rfl (by rfl) (by rfl) (load_run 41 (.tmp 121) rfl g (k * 3) rfl (enc z) _ HZ.out Tryz.underlying41 rfl (by rw [enc_len]; exact infoE)) trivial (fun hHeld => ?_) ?_
          · simp only [List.setIfInBounds_toArray, List.set_cons_zero, List.set_cons_succ]
            refine wpAnyH_ready (rs := [13]) (by kernel_rfl) (by simp) ?_
            refine all_at 13 126 (.agg (enc y).toArray) X1 rfl (by rfl) (by rfl) (load_run 41 (.tmp 125) rfl g ((k + 1) * 3) rfl (enc y) _ HX.out Tryz.underlying41 rfl (by rw [enc_len]; exact infoE)) trivial (fun hHeld => ?_) all_nil
            simp only [List.setIfInBounds_toArray, List.set_cons_zero, List.set_cons_succ]
            refine take_at 14 127 (.pointer (some ⟨g, (k + 1) * 3, none⟩)) rfl (by rfl) (by kernel_rfl) (by kernel_rfl) (by kernel_rfl) (fun _ _ _ h => h) (Or.inl ⟨by rfl, fun w' hSw => by go_simp⟩) (by assumption) ?_
            simp only [List.setIfInBounds_toArray, List.set_cons_zero, List.set_cons_succ]
            refine wpAnyH_ready (rs := [15]) (by kernel_rfl) (by simp) ?_
            refine all_wp 15 _ (X1.setCells g ((k + 1) * 3) (enc z)) rfl (by rfl) (fun K' hk => wp_store_mid 41 (.tmp 127) (.tmp 122) rfl g ((k + 1) * 3) (enc z).toArray rfl rfl (HAd.out.there enc_len ll) (by rw [List.size_toArray, enc_len]; exact infoE) (all_oneCell_toArray (enc_one _)) (by simpa only [List.toList_toArray] using hk)) trivial (fun hHeld => ?_) all_nil
            simp only [Act.put]
            refine take_at 16 128 (.pointer (some ⟨g, k * 3, none⟩)) rfl (by rfl) (by kernel_rfl) (by kernel_rfl) (by kernel_rfl) (fun _ _ _ h => h) (Or.inl ⟨by rfl, fun w' hSw => by go_simp⟩) (by assumption) ?_
            simp only [List.setIfInBounds_toArray, List.set_cons_zero, List.set_cons_succ]
            refine wpAnyH_ready (rs := [17]) (by kernel_rfl) (by simp) ?_
            refine all_wp 17 _ ((X1.setCells g ((k + 1) * 3) (enc z)).setCells g (k * 3) (enc y)) rfl (by rfl) (fun K' hk => wp_store_mid 41 (.tmp 128) (.tmp 126) rfl g (k * 3) (enc y).toArray rfl rfl (H1.out.there enc_len lr) (by rw [List.size_toArray, enc_len]; exact infoE) (all_oneCell_toArray (enc_one _)) (by simpa only [List.toList_toArray] using hk)) trivial (fun hHeld => ?_) all_nil
            simp only [Act.put]
            refine wpAnyH_done (by kernel_rfl) ?_ _
            generalize ((X1.setCells g ((k + 1) * 3) (enc z)).setCells g (k * 3) (enc y)) = Z at *
            clear H1 HAd HGd HX HZ
            go_wp2
            refine ⟨⟨_, _, _, _, _, _, _, _, _, _, _, _, _, _, _, _, _, _, _, _, _, _, ⟨k, by omega, by omega, ?_, H2.out, G2.out⟩, rfl⟩, by simp [intOf] <;> omega⟩
            go_num
          refine all_at 13 126 (.agg (enc y).toArray) X1 rfl (by rfl) (by rfl) (load_run 41 (.tmp 125) rfl g ((k + 1) * 3) rfl (enc y) _ HX.out Tryz.underlying41 rfl (by rw [enc_len]; exact infoE)) trivial (fun hHeld => ?_) all_nil
          simp only [List.setIfInBounds_toArray, List.set_cons_zero, List.set_cons_succ]
          refine wpAnyH_ready (rs := [9]) (by kernel_rfl) (by simp) ?_
          refine all_at 9 122 (.agg (enc z).toArray) X1 rfl (by rfl) (by rfl) (load_run 41 (.tmp 121) rfl g (k * 3) rfl (enc z) _ HZ.out Tryz.underlying41 rfl (by rw [enc_len]; exact infoE)) trivial (fun hHeld => ?_) all_nil
          simp only [List.setIfInBounds_toArray, List.set_cons_zero, List.set_cons_succ]
          refine take_at 14 127 (.pointer (some ⟨g, (k + 1) * 3, none⟩)) rfl (by rfl) (by kernel_rfl) (by kernel_rfl) (by kernel_rfl) (fun _ _ _ h => h) (Or.inl ⟨by rfl, fun w' hSw => by go_simp⟩) (by assumption) ?_
          simp only [List.setIfInBounds_toArray, List.set_cons_zero, List.set_cons_succ]
          refine wpAnyH_ready (rs := [15]) (by kernel_rfl) (by simp) ?_
          refine all_wp 15 _ (X1.setCells g ((k + 1) * 3) (enc z)) rfl (by rfl) (fun K' hk => wp_store_mid 41 (.tmp 127) (.tmp 122) rfl g ((k + 1) * 3) (enc z).toArray rfl rfl (HAd.out.there enc_len ll) (by rw [List.size_toArray, enc_len]; exact infoE) (all_oneCell_toArray (enc_one _)) (by simpa only [List.toList_toArray] using hk)) trivial (fun hHeld => ?_) all_nil
          simp only [Act.put]
          refine take_at 16 128 (.pointer (some ⟨g, k * 3, none⟩)) rfl (by rfl) (by kernel_rfl) (by kernel_rfl) (by kernel_rfl) (fun _ _ _ h => h) (Or.inl ⟨by rfl, fun w' hSw => by go_simp⟩) (by assumption) ?_
          simp only [List.setIfInBounds_toArray, List.set_cons_zero, List.set_cons_succ]
          refine wpAnyH_ready (rs := [17]) (by kernel_rfl) (by simp) ?_
          refine all_wp 17 _ ((X1.setCells g ((k + 1) * 3) (enc z)).setCells g (k * 3) (enc y)) rfl (by rfl) (fun K' hk => wp_store_mid 41 (.tmp 128) (.tmp 126) rfl g (k * 3) (enc y).toArray rfl rfl (H1.out.there enc_len lr) (by rw [List.size_toArray, enc_len]; exact infoE) (all_oneCell_toArray (enc_one _)) (by simpa only [List.toList_toArray] using hk)) trivial (fun hHeld => ?_) all_nil
          simp only [Act.put]
          refine wpAnyH_done (by kernel_rfl) ?_ _
          generalize ((X1.setCells g ((k + 1) * 3) (enc z)).setCells g (k * 3) (enc y)) = Z at *
          clear H1 HAd HGd HX HZ
          go_wp2
          refine ⟨⟨_, _, _, _, _, _, _, _, _, _, _, _, _, _, _, _, _, _, _, _, _, _, ⟨k, by omega, by omega, ?_, H2.out, G2.out⟩, rfl⟩, by simp [intOf] <;> omega⟩
          go_num
        · obtain rfl : j = A0 + p := by omega
          have hfin : Merged P X [y] R g w wr := by
            refine ⟨X.take p ++ y :: X.drop p, ?_, ?_, HM.out.1, HM.out.2, Hid.out hgk⟩
            · have e : P ++ ((X.take p ++ y :: X.drop p) ++ R) = mv P X R y (A0 + p - A0) := by rw [show A0 + p - A0 = p by omega]; simp [mv]
              rw [e]; exact Hid.out hArk
            · simp only [List.length_append, List.length_cons, List.length_take, List.length_drop, List.length_nil]; omega
          have HF := Lib.hid hfin
          clear hfin hArk hgk
          go_wp2
          exact ⟨rfl, _, results_none rfl _ _ _, rfl, HF.out⟩
end Go.Proofs.YtjkmfonngbendaaGreatDoor.Sc
