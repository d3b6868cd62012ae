/- Contract of package slices' symMergeCmpFunc at changes: both stretches have more than one element, the second one begins ahead of, or at, the middle. -/
import Derived.Test.YtjkmfonngbendaaGreatDoorChH
namespace Go.Proofs.YtjkmfonngbendaaGreatDoor.Sc
set_option linter.unusedVariables false
set_option maxRecDepth 100000
open Go.ChangeShapes Go.WideShapes Go.ChangeAt Go.RowKit
open Ar Rg St
set_option maxRecDepth 100000 in
set_option maxHeartbeats 2000000 in
theorem sym_le (n : Nat) (IH : SymOK n) (P X Y R D : List Ch) (hD : D = P ++ (X ++ (Y ++ R))) (hX : 1 < X.length) (hY : 1 < Y.length) (hn : X.length + Y.length ≤ n) (sX : Srt key lt X) (sY : Srt key lt Y) (g cap N : Nat) (hN : N = D.length) (hL : N ≤ cap) (hm : N ≤ 281474976710656) (w : World) (hA : Arr enc 3 w g D) (a m b : Int) (ha : a = (P.length : Int)) (hmm : m = (P.length : Int) + X.length) (hb : b = (P.length : Int) + X.length + Y.length) (hw : m ≤ (a + b) / 2) :
    Calls Tryz.prog 172 #[.slice (some ⟨g, 0, none⟩) N cap, .int .i64 a, .int .i64 m, .int .i64 b, CMP] w fun e w' => e = .returned (.tuple #[]) ∧ Merged P X Y R g w w' := by
  obtain ⟨A0, hA0⟩ : ∃ M : Nat, M = P.length := ⟨_, rfl⟩
  obtain ⟨M, hM⟩ : ∃ M : Nat, M = A0 + X.length := ⟨_, rfl⟩
  obtain ⟨B, hB⟩ : ∃ B : Nat, B = M + Y.length := ⟨_, rfl⟩
  obtain ⟨Q, hQ⟩ : ∃ Q : Nat, ((A0 : Int) + (B : Int)) / 2 = (Q : Int) := ⟨(A0 + B) / 2, by omega⟩
  have q1 : 2 * Q ≤ A0 + B := by omega
  have q2 : A0 + B < 2 * Q + 2 := by omega
  have hlen : B ≤ N := by rw [hN, hD, hB, hM, hA0]; simp only [List.length_append]; omega
  have b1 : A0 + 1 < M := by omega
  have b2 : M + 1 < B := by omega
  have hn2 : B - A0 ≤ n := by omega
  have em : m = (M : Int) := by omega
  have eb : b = (B : Int) := by omega
  rw [← hA0] at ha hmm hb
  rw [ha, eb, hQ, em] at hw
  have hnq : ¬ Q < M := by omega
  have hdq : decide (Q < M) = false := by simp [hnq]
  have HQ1 := Lib.hid q1
  have HQ2 := Lib.hid q2
  have HA := Lib.hid hA
  have HD := Lib.hid hD
  have HN := Lib.hid hN
  have HX := Lib.hid sX
  have HY := Lib.hid sY
  have HA0 := Lib.hid hA0
  have HM := Lib.hid hM
  have HB := Lib.hid hB
  have HXL := Lib.hid hX
  have HYL := Lib.hid hY
  clear hA hD hN sX sY hA0 hM hB hX hY hmm hb hn
  subst ha em eb
  have hq1 : (((M : Int) - A0) == 1) = false := by rw [beq_eq_false_iff_ne]; omega
  have hq2 : (((B : Int) - M) == 1) = false := by rw [beq_eq_false_iff_ne]; omega
  unfold CMP
  go_enter Tryz.func172, Tryz.ntmps172
  go_wp2_with fail
  go_loopw [20, 21] (fun v u wr => ∃ lo hi : Nat, v = .int .i64 lo ∧ u = .int .i64 hi ∧ Hid (Bs (GC D (Q + M - 1)) A0 M lo hi) ∧ Hid (Arr enc 3 wr g D) ∧ Hid (w.grownBy wr (some g))) (fun v u _ => (intOf u).toNat - (intOf v).toNat)
  case atStart => exact ⟨A0, M, by go_num, by go_num, Bs.start _ (by omega), HA.out, grown_refl _ _⟩
  case round =>
    obtain ⟨lo, hi, rfl, rfl, hbs, hAr, hgr⟩ := hrel
    have hbd := Hid.out hbs
    obtain ⟨n1, n2, n3, _⟩ := hbd
    by_cases hlt : lo < hi
    · obtain ⟨h, hh⟩ : ∃ h : Nat, ((lo : Int) + (hi : Int)) / 2 = (h : Int) := ⟨(lo + hi) / 2, by omega⟩
      have n4 : lo ≤ h := by omega
      have n5 : h < hi := by omega
      have n6 : (0 : Int) ≤ (h : Int) := by omega
      have n7 : (h : Int) < (N : Int) := by omega
      obtain ⟨q, hq⟩ : ∃ q : Nat, (Q : Int) + (M : Int) - 1 - (h : Int) = (q : Int) := ⟨Q + M - 1 - h, by omega⟩
      have n8 : (0 : Int) ≤ (q : Int) := by omega
      have n9 : (q : Int) < (N : Int) := by omega
      obtain ⟨z, hz⟩ : ∃ z, D[h]? = some z := ⟨_, List.getElem?_eq_getElem (by rw [← HN.out]; omega)⟩
      obtain ⟨u, hu⟩ : ∃ z, D[q]? = some z := ⟨_, List.getElem?_eq_getElem (by rw [← HN.out]; omega)⟩
      obtain ⟨c, hcf⟩ : ∃ c, cf u z = c := ⟨_, rfl⟩
      have hcl := cf_lt u z
      rw [hcf] at hcl
      have hgc : GC D (Q + M - 1) h = lt (key u) (key z) := GC_at (by rw [show Q + M - 1 - h = q by omega]; exact hu) hz
      by_cases hb : lt (key u) (key z) = true
      · have hc0 : c < 0 := hcl.2 hb
        have HDN := Lib.hid ((Hid.out hbs).down n4 n5 (by rw [hgc, hb]))
        clear hcl hgc
        go_wp2_with fail
        refine wp_region_held_drew (S := fun w' => Arr enc 3 w' g D ∧ w.grownBy w' (some g)) (by kernel_rfl) ⟨(Hid.out hAr).drew, grown_trans (Hid.out hgr) (grown_drew _ _)⟩ (fun hHeld => ?_)
        refine take_at 0 158 (.func (.func 84) #[] #[]) rfl (by rfl) (by kernel_rfl) (by kernel_rfl) (by kernel_rfl) (fun _ _ _ h => h) (Or.inl ⟨by rfl, fun w' hSw => by go_simp⟩) (by assumption) ?_
        simp only [List.setIfInBounds_toArray, List.set_cons_zero, List.set_cons_succ]
        refine take_at 1 159 (.slice (some ⟨g, 0, none⟩) N cap) rfl (by rfl) (by kernel_rfl) (by kernel_rfl) (by kernel_rfl) (fun _ _ _ h => h) (Or.inl ⟨by rfl, fun w' hSw => by go_simp⟩) (by assumption) ?_
        simp only [List.setIfInBounds_toArray, List.set_cons_zero, List.set_cons_succ]
        refine take_at 2 160 (.int .i64 ((Q : Int) + (M : Int) - 1)) rfl (by rfl) (by kernel_rfl) (by kernel_rfl) (by kernel_rfl) (fun _ _ _ h => h) (Or.inl ⟨by rfl, fun w' hSw => by go_simp⟩) (by assumption) ?_
        simp only [List.setIfInBounds_toArray, List.set_cons_zero, List.set_cons_succ]
        refine take_at 3 161 (.int .i64 h) rfl (by rfl) (by kernel_rfl) (by kernel_rfl) (by kernel_rfl) (fun _ _ _ h => h) (Or.inl ⟨by rfl, fun w' hSw => by go_simp⟩) (by assumption) ?_
        simp only [List.setIfInBounds_toArray, List.set_cons_zero, List.set_cons_succ]
        refine take_at 4 162 (.int .i64 q) rfl (by rfl) (by kernel_rfl) (by kernel_rfl) (by kernel_rfl) (fun _ _ _ h => h) (Or.inl ⟨by rfl, fun w' hSw => by go_simp <;> exact IntWalk.i64_in _ ⟨by omega, by omega⟩⟩) (by assumption) ?_
        simp only [List.setIfInBounds_toArray, List.set_cons_zero, List.set_cons_succ]
        refine take_at 5 163 (.pointer (some ⟨g, q * 3, none⟩)) rfl (by rfl) (by kernel_rfl) (by kernel_rfl) (by kernel_rfl) (fun _ _ _ h => h) (Or.inl ⟨by rfl, fun w' hSw => by go_simp⟩) (by assumption) ?_
        simp only [List.setIfInBounds_toArray, List.set_cons_zero, List.set_cons_succ]
        refine take_at 6 164 (.agg (enc u).toArray) rfl (by rfl) (by kernel_rfl) (by kernel_rfl) (by kernel_rfl) (fun _ _ _ h => h) (yieldsIf_load_mid (by rfl) _ _ rfl _ _ rfl (enc u) _ (fun w' hSw => hSw.1.range hu) Tryz.underlying41 rfl (by rw [enc_len]; exact infoE)) (by assumption) ?_
        simp only [List.setIfInBounds_toArray, List.set_cons_zero, List.set_cons_succ]
        refine take_at 7 165 (.slice (some ⟨g, 0, none⟩) N cap) rfl (by rfl) (by kernel_rfl) (by kernel_rfl) (by kernel_rfl) (fun _ _ _ h => h) (Or.inl ⟨by rfl, fun w' hSw => by go_simp⟩) (by assumption) ?_
        simp only [List.setIfInBounds_toArray, List.set_cons_zero, List.set_cons_succ]
        refine take_at 8 166 (.int .i64 h) rfl (by rfl) (by kernel_rfl) (by kernel_rfl) (by kernel_rfl) (fun _ _ _ h => h) (Or.inl ⟨by rfl, fun w' hSw => by go_simp⟩) (by assumption) ?_
        simp only [List.setIfInBounds_toArray, List.set_cons_zero, List.set_cons_succ]
        refine take_at 9 167 (.pointer (some ⟨g, h * 3, none⟩)) rfl (by rfl) (by kernel_rfl) (by kernel_rfl) (by kernel_rfl) (fun _ _ _ h => h) (Or.inl ⟨by rfl, fun w' hSw => by go_simp⟩) (by assumption) ?_
        simp only [List.setIfInBounds_toArray, List.set_cons_zero, List.set_cons_succ]
        refine take_at 10 168 (.agg (enc z).toArray) rfl (by rfl) (by kernel_rfl) (by kernel_rfl) (by kernel_rfl) (fun _ _ _ h => h) (yieldsIf_load_mid (by rfl) _ _ rfl _ _ rfl (enc z) _ (fun w' hSw => hSw.1.range hz) Tryz.underlying41 rfl (by rw [enc_len]; exact infoE)) (by assumption) ?_
        simp only [List.setIfInBounds_toArray, List.set_cons_zero, List.set_cons_succ]
        refine wpAnyH_ready (rs := [11]) (by kernel_rfl) (by simp) ?_
        refine AllReadyH.cons rfl (fun K hK => ?_) AllReadyH.nil
        go_simp
        go_wp2_with (go_at_call 84; refine (cmp_at u z c hcf _).mono ?_; rintro e w5 ⟨rfl, hg5⟩)
        refine hK.out _ _ ⟨hHeld.1.grown0 enc_len (by omega) hg5, grown_trans hHeld.2 (grown_weak hg5 _)⟩ (fun hHeld => ?_)
        clear hK K
        refine take_at 12 170 (.bool true) rfl (by rfl) (by kernel_rfl) (by kernel_rfl) (by kernel_rfl) (fun _ _ _ h => h) (Or.inl ⟨by rfl, fun w' hSw => by go_simp⟩) (by assumption) ?_
        simp only [List.setIfInBounds_toArray, List.set_cons_zero, List.set_cons_succ]
        refine take_at 13 171 (.bool false) rfl (by rfl) (by kernel_rfl) (by kernel_rfl) (by kernel_rfl) (fun _ _ _ h => h) (Or.inl ⟨by rfl, fun w' hSw => by go_simp⟩) (by assumption) ?_
        simp only [List.setIfInBounds_toArray, List.set_cons_zero, List.set_cons_succ]
        refine wpAnyH_done (by kernel_rfl) ?_ _
        obtain ⟨hH1, hH2⟩ := hHeld
        have HH1 := Lib.hid hH1
        have HH2 := Lib.hid hH2
        clear hH1 hH2 hAr hgr
        go_wp2
        first
          | exact ⟨⟨lo, h, rfl, rfl, HDN.out, HH1.out, HH2.out⟩, by simp [intOf] <;> omega⟩
          | exact ⟨⟨_, _, _, _, _, _, _, _, _, _, _, _, _, _, _, _, _, _, _, _, _, _, _, _, _, _, _, _, _, ⟨lo, h, rfl, rfl, HDN.out, HH1.out, HH2.out⟩, rfl⟩, by simp [intOf] <;> omega⟩
      · have hc1 : ¬ c < 0 := fun e => hb (hcl.1 e)
        have hc0 : 0 ≤ c := by omega
        have HUP := Lib.hid ((Hid.out hbs).up n4 n5 (by rw [hgc]; simpa using hb))
        clear hcl hc1 hgc
        go_wp2_with fail
        refine wp_region_held_drew (S := fun w' => Arr enc 3 w' g D ∧ w.grownBy w' (some g)) (by kernel_rfl) ⟨(Hid.out hAr).drew, grown_trans (Hid.out hgr) (grown_drew _ _)⟩ (fun hHeld => ?_)
        refine take_at 0 158 (.func (.func 84) #[] #[]) rfl (by rfl) (by kernel_rfl) (by kernel_rfl) (by kernel_rfl) (fun _ _ _ h => h) (Or.inl ⟨by rfl, fun w' hSw => by go_simp⟩) (by assumption) ?_
        simp only [List.setIfInBounds_toArray, List.set_cons_zero, List.set_cons_succ]
        refine take_at 1 159 (.slice (some ⟨g, 0, none⟩) N cap) rfl (by rfl) (by kernel_rfl) (by kernel_rfl) (by kernel_rfl) (fun _ _ _ h => h) (Or.inl ⟨by rfl, fun w' hSw => by go_simp⟩) (by assumption) ?_
        simp only [List.setIfInBounds_toArray, List.set_cons_zero, List.set_cons_succ]
        refine take_at 2 160 (.int .i64 ((Q : Int) + (M : Int) - 1)) rfl (by rfl) (by kernel_rfl) (by kernel_rfl) (by kernel_rfl) (fun _ _ _ h => h) (Or.inl ⟨by rfl, fun w' hSw => by go_simp⟩) (by assumption) ?_
        simp only [List.setIfInBounds_toArray, List.set_cons_zero, List.set_cons_succ]
        refine take_at 3 161 (.int .i64 h) rfl (by rfl) (by kernel_rfl) (by kernel_rfl) (by kernel_rfl) (fun _ _ _ h => h) (Or.inl ⟨by rfl, fun w' hSw => by go_simp⟩) (by assumption) ?_
        simp only [List.setIfInBounds_toArray, List.set_cons_zero, List.set_cons_succ]
        refine take_at 4 162 (.int .i64 q) rfl (by rfl) (by kernel_rfl) (by kernel_rfl) (by kernel_rfl) (fun _ _ _ h => h) (Or.inl ⟨by rfl, fun w' hSw => by go_simp <;> exact IntWalk.i64_in _ ⟨by omega, by omega⟩⟩) (by assumption) ?_
        simp only [List.setIfInBounds_toArray, List.set_cons_zero, List.set_cons_succ]
        refine take_at 5 163 (.pointer (some ⟨g, q * 3, none⟩)) rfl (by rfl) (by kernel_rfl) (by kernel_rfl) (by kernel_rfl) (fun _ _ _ h => h) (Or.inl ⟨by rfl, fun w' hSw => by go_simp⟩) (by assumption) ?_
        simp only [List.setIfInBounds_toArray, List.set_cons_zero, List.set_cons_succ]
        refine take_at 6 164 (.agg (enc u).toArray) rfl (by rfl) (by kernel_rfl) (by kernel_rfl) (by kernel_rfl) (fun _ _ _ h => h) (yieldsIf_load_mid (by rfl) _ _ rfl _ _ rfl (enc u) _ (fun w' hSw => hSw.1.range hu) Tryz.underlying41 rfl (by rw [enc_len]; exact infoE)) (by assumption) ?_
        simp only [List.setIfInBounds_toArray, List.set_cons_zero, List.set_cons_succ]
        refine take_at 7 165 (.slice (some ⟨g, 0, none⟩) N cap) rfl (by rfl) (by kernel_rfl) (by kernel_rfl) (by kernel_rfl) (fun _ _ _ h => h) (Or.inl ⟨by rfl, fun w' hSw => by go_simp⟩) (by assumption) ?_
        simp only [List.setIfInBounds_toArray, List.set_cons_zero, List.set_cons_succ]
        refine take_at 8 166 (.int .i64 h) rfl (by rfl) (by kernel_rfl) (by kernel_rfl) (by kernel_rfl) (fun _ _ _ h => h) (Or.inl ⟨by rfl, fun w' hSw => by go_simp⟩) (by assumption) ?_
        simp only [List.setIfInBounds_toArray, List.set_cons_zero, List.set_cons_succ]
        refine take_at 9 167 (.pointer (some ⟨g, h * 3, none⟩)) rfl (by rfl) (by kernel_rfl) (by kernel_rfl) (by kernel_rfl) (fun _ _ _ h => h) (Or.inl ⟨by rfl, fun w' hSw => by go_simp⟩) (by assumption) ?_
        simp only [List.setIfInBounds_toArray, List.set_cons_zero, List.set_cons_succ]
        refine take_at 10 168 (.agg (enc z).toArray) rfl (by rfl) (by kernel_rfl) (by kernel_rfl) (by kernel_rfl) (fun _ _ _ h => h) (yieldsIf_load_mid (by rfl) _ _ rfl _ _ rfl (enc z) _ (fun w' hSw => hSw.1.range hz) Tryz.underlying41 rfl (by rw [enc_len]; exact infoE)) (by assumption) ?_
        simp only [List.setIfInBounds_toArray, List.set_cons_zero, List.set_cons_succ]
        refine wpAnyH_ready (rs := [11]) (by kernel_rfl) (by simp) ?_
        refine AllReadyH.cons rfl (fun K hK => ?_) AllReadyH.nil
        go_simp
        go_wp2_with (go_at_call 84; refine (cmp_at u z c hcf _).mono ?_; rintro e w5 ⟨rfl, hg5⟩)
        refine hK.out _ _ ⟨hHeld.1.grown0 enc_len (by omega) hg5, grown_trans hHeld.2 (grown_weak hg5 _)⟩ (fun hHeld => ?_)
        clear hK K
        refine take_at 12 170 (.bool false) rfl (by rfl) (by kernel_rfl) (by kernel_rfl) (by kernel_rfl) (fun _ _ _ h => h) (Or.inl ⟨by rfl, fun w' hSw => by go_simp⟩) (by assumption) ?_
        simp only [List.setIfInBounds_toArray, List.set_cons_zero, List.set_cons_succ]
        refine take_at 13 171 (.bool true) rfl (by rfl) (by kernel_rfl) (by kernel_rfl) (by kernel_rfl) (fun _ _ _ h => h) (Or.inl ⟨by rfl, fun w' hSw => by go_simp⟩) (by assumption) ?_
        simp only [List.setIfInBounds_toArray, List.set_cons_zero, List.set_cons_succ]
        refine wpAnyH_done (by kernel_rfl) ?_ _
        obtain ⟨hH1, hH2⟩ := hHeld
        have HH1 := Lib.hid hH1
        have HH2 := Lib.hid hH2
        clear hH1 hH2 hAr hgr
        go_wp2
        first
          | exact ⟨⟨h + 1, hi, by go_num, rfl, HUP.out, HH1.out, HH2.out⟩, by simp [intOf] <;> omega⟩
          | exact ⟨⟨_, _, _, _, _, _, _, _, _, _, _, _, _, _, _, _, _, _, _, _, _, _, _, _, _, _, _, _, _, ⟨h + 1, hi, by go_num, rfl, HUP.out, HH1.out, HH2.out⟩, rfl⟩, by simp [intOf] <;> omega⟩
    · obtain rfl : lo = hi := by omega
      obtain ⟨X1, X2, Y1, Y2, e1, e2, F⟩ := four_make HD.out HN.out HA0.out HM.out HB.out HQ1.out HQ2.out HXL.out HYL.out hn2 (.inr ⟨by omega, rfl, rfl⟩) HX.out HY.out (Hid.out hbs)
      obtain ⟨E, hE⟩ : ∃ E : Nat, (Q : Int) + (M : Int) - (lo : Int) = (E : Int) := ⟨Q + M - lo, by omega⟩
      rw [show Q + M - lo = E by omega] at F
      have HF := Lib.hid F
      have hAr1 : Arr enc 3 wr g (P ++ (X ++ (Y ++ R))) := by rw [← HD.out]; exact Hid.out hAr
      rw [e1, e2] at hAr1
      have HAr := Lib.hid hAr1
      have HE1 := Lib.hid e1
      have HE2 := Lib.hid e2
      have b3 := F.hAQ
      have b4 := F.hQB
      clear hAr1 F e1 e2 hbs hAr HX HY HXL HYL HD HA0 HM HB
      by_cases cM : lo < M
      · have d1 : (lo : Int) < (M : Int) := by omega
        have d2 : (M : Int) < (E : Int) := by omega
        have d3 : (lo : Int) < (Q : Int) := by omega
        have d4 : (Q : Int) < (E : Int) := by omega
        by_cases cA : A0 < lo
        · have d5 : (A0 : Int) < (lo : Int) := by omega
          by_cases cB : E < B
          · have d6 : (E : Int) < (B : Int) := by omega
            go_wp2_with fail
            go_at_call 195
            refine (four_rot HF.out cap hL hm _ HAr.out (Hid.out hgr) (by omega) (by omega)).mono ?_
            rintro e w1 ⟨rfl, hs1⟩
            have H1 := Lib.hid hs1
            clear hs1
            go_wp2_with fail
            go_at_call 172
            refine (four_one IH HF.out cap hL hm H1.out (by omega) (by omega)).mono ?_
            rintro e w2 ⟨rfl, hs2⟩
            have H2 := Lib.hid hs2
            clear hs2
            go_wp2_with fail
            go_at_call 172
            refine (four_two IH HF.out cap hL hm H2.out (by omega) (by omega)).mono ?_
            rintro e w3 ⟨rfl, hs3⟩
            have H3 := Lib.hid hs3
            clear hs3
            go_wp2
            exact ⟨rfl, _, results_none rfl _ _ _, rfl, by rw [HE1.out, HE2.out]; exact H3.out⟩
          · have d6 : (B : Int) ≤ (E : Int) := by omega
            go_wp2_with fail
            go_at_call 195
            refine (four_rot HF.out cap hL hm _ HAr.out (Hid.out hgr) (by omega) (by omega)).mono ?_
            rintro e w1 ⟨rfl, hs1⟩
            have H1 := Lib.hid hs1
            clear hs1
            go_wp2_with fail
            go_at_call 172
            refine (four_one IH HF.out cap hL hm H1.out (by omega) (by omega)).mono ?_
            rintro e w2 ⟨rfl, hs2⟩
            have H2 := Lib.hid hs2
            clear hs2
            have H3 := Lib.hid (four_two' HF.out H2.out (by omega))
            go_wp2
            exact ⟨rfl, _, results_none rfl _ _ _, rfl, by rw [HE1.out, HE2.out]; exact H3.out⟩
        · have d5 : (lo : Int) ≤ (A0 : Int) := by omega
          by_cases cB : E < B
          · have d6 : (E : Int) < (B : Int) := by omega
            go_wp2_with fail
            go_at_call 195
            refine (four_rot HF.out cap hL hm _ HAr.out (Hid.out hgr) (by omega) (by omega)).mono ?_
            rintro e w1 ⟨rfl, hs1⟩
            have H1 := Lib.hid hs1
            clear hs1
            have H2 := Lib.hid (four_one' HF.out H1.out (by omega))
            go_wp2_with fail
            go_at_call 172
            refine (four_two IH HF.out cap hL hm H2.out (by omega) (by omega)).mono ?_
            rintro e w3 ⟨rfl, hs3⟩
            have H3 := Lib.hid hs3
            clear hs3
            go_wp2
            exact ⟨rfl, _, results_none rfl _ _ _, rfl, by rw [HE1.out, HE2.out]; exact H3.out⟩
          · have d6 : (B : Int) ≤ (E : Int) := by omega
            go_wp2_with fail
            go_at_call 195
            refine (four_rot HF.out cap hL hm _ HAr.out (Hid.out hgr) (by omega) (by omega)).mono ?_
            rintro e w1 ⟨rfl, hs1⟩
            have H1 := Lib.hid hs1
            clear hs1
            have H2 := Lib.hid (four_one' HF.out H1.out (by omega))
            have H3 := Lib.hid (four_two' HF.out H2.out (by omega))
            go_wp2
            exact ⟨rfl, _, results_none rfl _ _ _, rfl, by rw [HE1.out, HE2.out]; exact H3.out⟩
      · have d1 : (M : Int) ≤ (lo : Int) := by omega
        have d4 : (E : Int) ≤ (Q : Int) := by omega
        have d5 : (A0 : Int) < (lo : Int) := by omega
        by_cases cQ : lo < Q
        · have d3 : (lo : Int) < (Q : Int) := by omega
          have H1 := Lib.hid (four_rot' HF.out HAr.out (Hid.out hgr) (by omega))
          go_wp2_with fail
          go_at_call 172
          refine (four_one IH HF.out cap hL hm H1.out (by omega) (by omega)).mono ?_
          rintro e w2 ⟨rfl, hs2⟩
          have H2 := Lib.hid hs2
          clear hs2
          have H3 := Lib.hid (four_two' HF.out H2.out (by omega))
          go_wp2
          exact ⟨rfl, _, results_none rfl _ _ _, rfl, by rw [HE1.out, HE2.out]; exact H3.out⟩
        · have d3 : (Q : Int) ≤ (lo : Int) := by omega
          have H1 := Lib.hid (four_rot' HF.out HAr.out (Hid.out hgr) (by omega))
          have H2 := Lib.hid (four_one' HF.out H1.out (by omega))
          have H3 := Lib.hid (four_two' HF.out H2.out (by omega))
          go_wp2
          exact ⟨rfl, _, results_none rfl _ _ _, rfl, by rw [HE1.out, HE2.out]; exact H3.out⟩
end Go.Proofs.YtjkmfonngbendaaGreatDoor.Sc
