/- Contract of package slices' symMergeCmpFunc at changes, where the first stretch has one element alone. -/
import Derived.Test.YtjkmfonngbendaaGreatDoorChE
namespace Go.Proofs.YtjkmfonngbendaaGreatDoor.Sc
set_option linter.unusedVariables false
set_option maxRecDepth 100000
open Go.ChangeShapes Go.WideShapes Go.ChangeAt Go.RowKit
open Ar Rg St
def GA (D : List Ch) (x : Ch) (c : Nat) : Bool := match D[c]? with | some z => !lt (key z) (key x) | none => false
theorem GA_at {D : List Ch} {x z : Ch} {c : Nat} (h : D[c]? = some z) : GA D x c = !lt (key z) (key x) := by unfold GA; rw [h]
/-- x moved over t elements of Y -/
def mv (P Y R : List Ch) (x : Ch) (t : Nat) : List Ch := P ++ (Y.take t ++ x :: (Y.drop t ++ R))
theorem mv_length (P Y R : List Ch) (x : Ch) (t : Nat) (h : t ≤ Y.length) : (mv P Y R x t).length = P.length + 1 + Y.length + R.length := by
  unfold mv
  simp only [List.length_append, List.length_cons, List.length_take, List.length_drop]
  omega
theorem mv_form (P Y R : List Ch) (x : Ch) (t : Nat) (h : t < Y.length) : mv P Y R x t = (P ++ Y.take t) ++ x :: (Y[t] :: (Y.drop (t + 1) ++ R)) := by
  unfold mv
  rw [List.drop_eq_getElem_cons h]
  simp only [List.append_assoc, List.cons_append]
theorem mv_form' (P Y R : List Ch) (x : Ch) (t : Nat) (h : t < Y.length) (u : Ch) : (P ++ Y.take t) ++ u :: (Y[t] :: (Y.drop (t + 1) ++ R)) = ((P ++ Y.take t) ++ [u]) ++ Y[t] :: (Y.drop (t + 1) ++ R) := by simp only [List.append_assoc, List.cons_append, List.nil_append]
theorem mv_next (P Y R : List Ch) (x : Ch) (t : Nat) (h : t < Y.length) : mv P Y R x (t + 1) = ((P ++ Y.take t) ++ [Y[t]]) ++ x :: (Y.drop (t + 1) ++ R) := by
  have e : Y.take (t + 1) = Y.take t ++ [Y[t]] := List.take_succ_eq_append_getElem h
  show P ++ (Y.take (t + 1) ++ x :: (Y.drop (t + 1) ++ R)) = _
  rw [e]
  simp only [List.append_assoc, List.cons_append, List.nil_append]
theorem mv_len1 (P Y : List Ch) (t : Nat) (h : t < Y.length) : (P ++ Y.take t).length = P.length + t := by rw [List.length_append, List.length_take]; omega
theorem mv_len2 (P Y : List Ch) (t : Nat) (h : t < Y.length) (u : Ch) : ((P ++ Y.take t) ++ [u]).length = P.length + t + 1 := by rw [List.length_append, mv_len1 P Y t h]; rfl
theorem mv_at (P Y R : List Ch) (x : Ch) (t : Nat) (h : t < Y.length) : (mv P Y R x t)[P.length + t]? = some x ∧ (mv P Y R x t)[P.length + t + 1]? = some Y[t] := by
  rw [mv_form P Y R x t h]
  refine ⟨get_mid _ _ _ _ (mv_len1 P Y t h).symm, ?_⟩
  rw [mv_form' P Y R x t h x]
  exact get_mid _ _ _ _ (mv_len2 P Y t h x).symm
theorem mv_up (P Y R : List Ch) (x : Ch) (t : Nat) (h : t < Y.length) : ((mv P Y R x t).set (P.length + t) Y[t]).set (P.length + t + 1) x = mv P Y R x (t + 1) := by
  rw [mv_form P Y R x t h, set_mid _ _ _ _ _ (mv_len1 P Y t h).symm, mv_form' P Y R x t h, set_mid _ _ _ _ _ (mv_len2 P Y t h _).symm, mv_next P Y R x t h]
theorem mv_at' (P Y R : List Ch) (x : Ch) (t : Nat) (h : t < Y.length) : (mv P Y R x (t + 1))[P.length + t]? = some Y[t] ∧ (mv P Y R x (t + 1))[P.length + t + 1]? = some x := by
  rw [mv_next P Y R x t h]
  refine ⟨?_, get_mid _ _ _ _ (mv_len2 P Y t h _).symm⟩
  have e : ((P ++ Y.take t) ++ [Y[t]]) ++ x :: (Y.drop (t + 1) ++ R) = (P ++ Y.take t) ++ Y[t] :: (x :: (Y.drop (t + 1) ++ R)) := by simp only [List.append_assoc, List.cons_append, List.nil_append]
  rw [e]
  exact get_mid _ _ _ _ (mv_len1 P Y t h).symm
theorem mv_down (P Y R : List Ch) (x : Ch) (t : Nat) (h : t < Y.length) : ((mv P Y R x (t + 1)).set (P.length + t + 1) Y[t]).set (P.length + t) x = mv P Y R x t := by
  rw [mv_next P Y R x t h, set_mid _ _ _ _ _ (mv_len2 P Y t h _).symm]
  have e : ((P ++ Y.take t) ++ [Y[t]]) ++ Y[t] :: (Y.drop (t + 1) ++ R) = (P ++ Y.take t) ++ Y[t] :: (Y[t] :: (Y.drop (t + 1) ++ R)) := by simp only [List.append_assoc, List.cons_append, List.nil_append]
  rw [e, set_mid _ _ _ _ _ (mv_len1 P Y t h).symm, mv_form P Y R x t h]
theorem mv_zero (P Y R : List Ch) (x : Ch) : mv P Y R x 0 = P ++ (x :: (Y ++ R)) := by simp [mv]
theorem mv_last (P Y R : List Ch) (x : Ch) : mv P Y R x Y.length = P ++ (Y ++ x :: R) := by simp [mv]
theorem mv_old (P Y R : List Ch) (x : Ch) (c : Nat) (h : c < Y.length) : (mv P Y R x 0)[P.length + 1 + c]? = some Y[c] := by
  rw [mv_zero, List.getElem?_append_right (by omega), show P.length + 1 + c - P.length = c + 1 by omega, List.getElem?_cons_succ, List.getElem?_append_left h, List.getElem?_eq_getElem h]
theorem mv_old' (P Y R : List Ch) (x : Ch) (c : Nat) (h : c < Y.length) : (mv P Y R x Y.length)[P.length + c]? = some Y[c] := by
  rw [mv_last, List.getElem?_append_right (by omega), show P.length + c - P.length = c by omega, List.getElem?_append_left h, List.getElem?_eq_getElem h]
set_option maxRecDepth 100000 in
set_option maxHeartbeats 2000000 in
theorem sym_left (P Y R D : List Ch) (x : Ch) (hD : D = P ++ (x :: (Y ++ R))) (hY : 0 < Y.length) (hs : Srt key lt Y) (g cap N : Nat) (hN : N = D.length) (hL : N ≤ cap) (hm : N ≤ 281474976710656) (w : World) (hA : Arr enc 3 w g D) (a m b : Int) (ha : a = (P.length : Int)) (hmm : m = (P.length : Int) + 1) (hb : b = (P.length : Int) + 1 + Y.length) :
    Calls Tryz.prog 172 #[.slice (some ⟨g, 0, none⟩) N cap, .int .i64 a, .int .i64 m, .int .i64 b, CMP] w fun e w' => e = .returned (.tuple #[]) ∧ Merged P [x] Y R g w w' := by
  obtain ⟨A0, hA0⟩ : ∃ M : Nat, M = P.length := ⟨_, rfl⟩
  obtain ⟨yl, hyl⟩ : ∃ n, n = Y.length := ⟨_, rfl⟩
  have hlen : A0 + 1 + yl ≤ N := by rw [hN, hD, hA0, hyl]; simp only [List.length_append, List.length_cons]; omega
  have hx0 : D[A0]? = some x := by rw [hD]; exact get_mid _ _ _ _ hA0
  have hDm : D = mv P Y R x 0 := by rw [mv_zero]; exact hD
  have HDM := Lib.hid hDm
  have HA := Lib.hid hA
  have HD := Lib.hid hD
  have HN := Lib.hid hN
  have HS := Lib.hid hs
  rw [← hA0] at ha hmm hb
  rw [← hyl] at hb hY
  have HA0 := Lib.hid hA0
  have HYL := Lib.hid hyl
  clear hA hD hDm hN hs hA0 hyl
  subst ha hmm hb
  have hq : (((A0 : Int) + 1 - A0) == 1) = true := by rw [beq_iff_eq]; omega
  unfold CMP
  go_enter Tryz.func172, Tryz.ntmps172
  go_wp2_with fail
  go_loopw [10, 11] (fun v u wr => ∃ lo hi : Nat, v = .int .i64 lo ∧ u = .int .i64 hi ∧ Hid (Bs (GA D x) (A0 + 1) (A0 + 1 + yl) lo hi) ∧ Hid (Arr enc 3 wr g D) ∧ Hid (w.grownBy wr (some g))) (fun v u _ => (intOf u).toNat - (intOf v).toNat)
  case atStart => exact ⟨A0 + 1, A0 + 1 + yl, by go_num, by go_num, Bs.start _ (by omega), HA.out, grown_refl _ _⟩
  case round =>
    obtain ⟨lo, hi, rfl, rfl, hbs, hAr, hgr⟩ := hrel
    have hbd := Hid.out hbs
    obtain ⟨n1, n2, n3, _⟩ := hbd
    by_cases hlt : lo < hi
    · obtain ⟨h, hh⟩ : ∃ h : Nat, ((lo : Int) + (hi : Int)) / 2 = (h : Int) := ⟨(lo + hi) / 2, by omega⟩
      have n4 : lo ≤ h := by omega
      have n5 : h < hi := by omega
      have n6 : (0 : Int) ≤ (h : Int) := by omega
      have n7 : (h : Int) < (N : Int) := by omega
      have n8 : (0 : Int) ≤ (A0 : Int) := by omega
      have n9 : (A0 : Int) < (N : Int) := by omega
      obtain ⟨z, hz⟩ : ∃ z, D[h]? = some z := ⟨_, List.getElem?_eq_getElem (by rw [← HN.out]; omega)⟩
      obtain ⟨c, hcf⟩ : ∃ c, cf z x = c := ⟨_, rfl⟩
      have hcl := cf_lt z x
      rw [hcf] at hcl
      by_cases hb : lt (key z) (key x) = true
      · have hc0 : c < 0 := hcl.2 hb
        have HUP := Lib.hid ((Hid.out hbs).up n4 n5 (by rw [GA_at hz, hb]; rfl))
        clear hcl
        go_wp2_with fail
        refine wp_region_held_drew (S := fun w' => Arr enc 3 w' g D ∧ w.grownBy w' (some g)) (by kernel_rfl) ⟨(Hid.out hAr).drew, grown_trans (Hid.out hgr) (grown_drew _ _)⟩ (fun hHeld => ?_)
        refine take_at 0 40 (.func (.func 84) #[] #[]) rfl (by rfl) (by kernel_rfl) (by kernel_rfl) (by kernel_rfl) (fun _ _ _ h => h) (Or.inl ⟨by rfl, fun w' hSw => by go_simp⟩) (by assumption) ?_
        simp only [List.setIfInBounds_toArray, List.set_cons_zero, List.set_cons_succ]
        refine take_at 1 41 (.slice (some ⟨g, 0, none⟩) N cap) rfl (by rfl) (by kernel_rfl) (by kernel_rfl) (by kernel_rfl) (fun _ _ _ h => h) (Or.inl ⟨by rfl, fun w' hSw => by go_simp⟩) (by assumption) ?_
        simp only [List.setIfInBounds_toArray, List.set_cons_zero, List.set_cons_succ]
        refine take_at 2 42 (.int .i64 h) rfl (by rfl) (by kernel_rfl) (by kernel_rfl) (by kernel_rfl) (fun _ _ _ h => h) (Or.inl ⟨by rfl, fun w' hSw => by go_simp⟩) (by assumption) ?_
        simp only [List.setIfInBounds_toArray, List.set_cons_zero, List.set_cons_succ]
        refine take_at 3 43 (.pointer (some ⟨g, h * 3, none⟩)) rfl (by rfl) (by kernel_rfl) (by kernel_rfl) (by kernel_rfl) (fun _ _ _ h => h) (Or.inl ⟨by rfl, fun w' hSw => by go_simp⟩) (by assumption) ?_
        simp only [List.setIfInBounds_toArray, List.set_cons_zero, List.set_cons_succ]
        refine take_at 4 44 (.agg (enc z).toArray) rfl (by rfl) (by kernel_rfl) (by kernel_rfl) (by kernel_rfl) (fun _ _ _ h => h) (yieldsIf_load_mid (by rfl) _ _ rfl _ _ rfl (enc z) _ (fun w' hSw => hSw.1.range hz) Tryz.underlying41 rfl (by rw [enc_len]; exact infoE)) (by assumption) ?_
        simp only [List.setIfInBounds_toArray, List.set_cons_zero, List.set_cons_succ]
        refine take_at 5 45 (.slice (some ⟨g, 0, none⟩) N cap) rfl (by rfl) (by kernel_rfl) (by kernel_rfl) (by kernel_rfl) (fun _ _ _ h => h) (Or.inl ⟨by rfl, fun w' hSw => by go_simp⟩) (by assumption) ?_
        simp only [List.setIfInBounds_toArray, List.set_cons_zero, List.set_cons_succ]
        refine take_at 6 46 (.int .i64 A0) rfl (by rfl) (by kernel_rfl) (by kernel_rfl) (by kernel_rfl) (fun _ _ _ h => h) (Or.inl ⟨by rfl, fun w' hSw => by go_simp⟩) (by assumption) ?_
        simp only [List.setIfInBounds_toArray, List.set_cons_zero, List.set_cons_succ]
        refine take_at 7 47 (.pointer (some ⟨g, A0 * 3, none⟩)) rfl (by rfl) (by kernel_rfl) (by kernel_rfl) (by kernel_rfl) (fun _ _ _ h => h) (Or.inl ⟨by rfl, fun w' hSw => by go_simp⟩) (by assumption) ?_
        simp only [List.setIfInBounds_toArray, List.set_cons_zero, List.set_cons_succ]
        refine take_at 8 48 (.agg (enc x).toArray) rfl (by rfl) (by kernel_rfl) (by kernel_rfl) (by kernel_rfl) (fun _ _ _ h => h) (yieldsIf_load_mid (by rfl) _ _ rfl _ _ rfl (enc x) _ (fun w' hSw => hSw.1.range hx0) Tryz.underlying41 rfl (by rw [enc_len]; exact infoE)) (by assumption) ?_
        simp only [List.setIfInBounds_toArray, List.set_cons_zero, List.set_cons_succ]
        refine wpAnyH_ready (rs := [9]) (by kernel_rfl) (by simp) ?_
        refine AllReadyH.cons rfl (fun K hK => ?_) AllReadyH.nil
        go_simp
        go_wp2_with (go_at_call 84; refine (cmp_at z x c hcf _).mono ?_; rintro e w5 ⟨rfl, hg5⟩)
        refine hK.out _ _ ⟨hHeld.1.grown0 enc_len (by omega) hg5, grown_trans hHeld.2 (grown_weak hg5 _)⟩ (fun hHeld => ?_)
        clear hK K
        refine take_at 10 50 (.bool true) rfl (by rfl) (by kernel_rfl) (by kernel_rfl) (by kernel_rfl) (fun _ _ _ h => h) (Or.inl ⟨by rfl, fun w' hSw => by go_simp⟩) (by assumption) ?_
        simp only [List.setIfInBounds_toArray, List.set_cons_zero, List.set_cons_succ]
        refine wpAnyH_done (by kernel_rfl) ?_ _
        obtain ⟨hH1, hH2⟩ := hHeld
        have HH1 := Lib.hid hH1
        have HH2 := Lib.hid hH2
        clear hH1 hH2 hAr hgr
        go_wp2
        exact ⟨⟨h + 1, hi, by go_num, rfl, HUP.out, HH1.out, HH2.out⟩, by simp [intOf] <;> omega⟩
      · have hc1 : ¬ c < 0 := fun e => hb (hcl.1 e)
        have hc0 : 0 ≤ c := by omega
        have HDN := Lib.hid ((Hid.out hbs).down n4 n5 (by rw [GA_at hz]; simp only [hb]; rfl))
        clear hcl hc1
        go_wp2_with fail
        refine wp_region_held_drew (S := fun w' => Arr enc 3 w' g D ∧ w.grownBy w' (some g)) (by kernel_rfl) ⟨(Hid.out hAr).drew, grown_trans (Hid.out hgr) (grown_drew _ _)⟩ (fun hHeld => ?_)
        refine take_at 0 40 (.func (.func 84) #[] #[]) rfl (by rfl) (by kernel_rfl) (by kernel_rfl) (by kernel_rfl) (fun _ _ _ h => h) (Or.inl ⟨by rfl, fun w' hSw => by go_simp⟩) (by assumption) ?_
        simp only [List.setIfInBounds_toArray, List.set_cons_zero, List.set_cons_succ]
        refine take_at 1 41 (.slice (some ⟨g, 0, none⟩) N cap) rfl (by rfl) (by kernel_rfl) (by kernel_rfl) (by kernel_rfl) (fun _ _ _ h => h) (Or.inl ⟨by rfl, fun w' hSw => by go_simp⟩) (by assumption) ?_
        simp only [List.setIfInBounds_toArray, List.set_cons_zero, List.set_cons_succ]
        refine take_at 2 42 (.int .i64 h) rfl (by rfl) (by kernel_rfl) (by kernel_rfl) (by kernel_rfl) (fun _ _ _ h => h) (Or.inl ⟨by rfl, fun w' hSw => by go_simp⟩) (by assumption) ?_
        simp only [List.setIfInBounds_toArray, List.set_cons_zero, List.set_cons_succ]
        refine take_at 3 43 (.pointer (some ⟨g, h * 3, none⟩)) rfl (by rfl) (by kernel_rfl) (by kernel_rfl) (by kernel_rfl) (fun _ _ _ h => h) (Or.inl ⟨by rfl, fun w' hSw => by go_simp⟩) (by assumption) ?_
        simp only [List.setIfInBounds_toArray, List.set_cons_zero, List.set_cons_succ]
        refine take_at 4 44 (.agg (enc z).toArray) rfl (by rfl) (by kernel_rfl) (by kernel_rfl) (by kernel_rfl) (fun _ _ _ h => h) (yieldsIf_load_mid (by rfl) _ _ rfl _ _ rfl (enc z) _ (fun w' hSw => hSw.1.range hz) Tryz.underlying41 rfl (by rw [enc_len]; exact infoE)) (by assumption) ?_
        simp only [List.setIfInBounds_toArray, List.set_cons_zero, List.set_cons_succ]
        refine take_at 5 45 (.slice (some ⟨g, 0, none⟩) N cap) rfl (by rfl) (by kernel_rfl) (by kernel_rfl) (by kernel_rfl) (fun _ _ _ h => h) (Or.inl ⟨by rfl, fun w' hSw => by go_simp⟩) (by assumption) ?_
        simp only [List.setIfInBounds_toArray, List.set_cons_zero, List.set_cons_succ]
        refine take_at 6 46 (.int .i64 A0) rfl (by rfl) (by kernel_rfl) (by kernel_rfl) (by kernel_rfl) (fun _ _ _ h => h) (Or.inl ⟨by rfl, fun w' hSw => by go_simp⟩) (by assumption) ?_
        simp only [List.setIfInBounds_toArray, List.set_cons_zero, List.set_cons_succ]
        refine take_at 7 47 (.pointer (some ⟨g, A0 * 3, none⟩)) rfl (by rfl) (by kernel_rfl) (by kernel_rfl) (by kernel_rfl) (fun _ _ _ h => h) (Or.inl ⟨by rfl, fun w' hSw => by go_simp⟩) (by assumption) ?_
        simp only [List.setIfInBounds_toArray, List.set_cons_zero, List.set_cons_succ]
        refine take_at 8 48 (.agg (enc x).toArray) rfl (by rfl) (by kernel_rfl) (by kernel_rfl) (by kernel_rfl) (fun _ _ _ h => h) (yieldsIf_load_mid (by rfl) _ _ rfl _ _ rfl (enc x) _ (fun w' hSw => hSw.1.range hx0) Tryz.underlying41 rfl (by rw [enc_len]; exact infoE)) (by assumption) ?_
        simp only [List.setIfInBounds_toArray, List.set_cons_zero, List.set_cons_succ]
        refine wpAnyH_ready (rs := [9]) (by kernel_rfl) (by simp) ?_
        refine AllReadyH.cons rfl (fun K hK => ?_) AllReadyH.nil
        go_simp
        go_wp2_with (go_at_call 84; refine (cmp_at z x c hcf _).mono ?_; rintro e w5 ⟨rfl, hg5⟩)
        refine hK.out _ _ ⟨hHeld.1.grown0 enc_len (by omega) hg5, grown_trans hHeld.2 (grown_weak hg5 _)⟩ (fun hHeld => ?_)
        clear hK K
        refine take_at 10 50 (.bool false) rfl (by rfl) (by kernel_rfl) (by kernel_rfl) (by kernel_rfl) (fun _ _ _ h => h) (Or.inl ⟨by rfl, fun w' hSw => by go_simp⟩) (by assumption) ?_
        simp only [List.setIfInBounds_toArray, List.set_cons_zero, List.set_cons_succ]
        refine wpAnyH_done (by kernel_rfl) ?_ _
        obtain ⟨hH1, hH2⟩ := hHeld
        have HH1 := Lib.hid hH1
        have HH2 := Lib.hid hH2
        clear hH1 hH2 hAr hgr
        go_wp2
        exact ⟨⟨lo, h, rfl, rfl, HDN.out, HH1.out, HH2.out⟩, by simp [intOf] <;> omega⟩
    · obtain rfl : lo = hi := by omega
      obtain ⟨p, rfl⟩ : ∃ p, lo = A0 + 1 + p := ⟨lo - (A0 + 1), by omega⟩
      have hp : p ≤ yl := by omega
      have hm1 : Srt key lt (Y.take p ++ x :: Y.drop p) ∧ Sm key ([x] ++ Y) (Y.take p ++ x :: Y.drop p) := by
        obtain ⟨_, _, _, g1, g2⟩ := Hid.out hbs
        refine one_left HS.out (take_lt HS.out ?_) (drop_ge HS.out ?_)
        · rcases g1 with g1 | g1
          · left; omega
          · rcases Nat.eq_zero_or_pos p with h0 | h0
            · left; exact h0
            · right
              have hz := mv_old P Y R x (p - 1) (by rw [← HYL.out]; omega)
              rw [← HDM.out, ← HA0.out] at hz
              rw [show A0 + 1 + p - 1 = A0 + 1 + (p - 1) by omega, GA_at hz] at g1
              exact ⟨_, List.getElem?_eq_getElem (by rw [← HYL.out]; omega), by simpa using g1⟩
        · rcases g2 with g2 | g2
          · left; rw [← HYL.out]; omega
          · rcases Nat.lt_or_ge p yl with h0 | h0
            · right
              have hz := mv_old P Y R x p (by rw [← HYL.out]; omega)
              rw [← HDM.out, ← HA0.out] at hz
              rw [GA_at hz] at g2
              exact ⟨_, List.getElem?_eq_getElem (by rw [← HYL.out]; omega), by simpa using g2⟩
            · left; rw [← HYL.out]; omega
      have HM := Lib.hid hm1
      have hAr0 : Arr enc 3 wr g (mv P Y R x 0) := by rw [← HDM.out]; exact Hid.out hAr
      have HAr0 := Lib.hid hAr0
      clear hm1 hbs hAr0
      go_wp2_with fail
      go_loopw [13] (fun v wk => ∃ t : Nat, t ≤ p ∧ v = .int .i64 ((A0 : Int) + t) ∧ Hid (Arr enc 3 wk g (mv P Y R x t)) ∧ Hid (w.grownBy wk (some g))) (fun v _ => A0 + p - (intOf v).toNat)
      case atStart => exact ⟨0, Nat.zero_le _, by go_num, HAr0.out, hgr⟩
      case round =>
        clear HAr0 hAr hgr
        obtain ⟨t, ht, rfl, hArk, hgk⟩ := hrel
        by_cases htp : t < p
        · have htY : t < Y.length := by rw [← HYL.out]; omega
          obtain ⟨z, hzz⟩ : ∃ z, z = Y[t] := ⟨_, rfl⟩
          have hxk := (mv_at P Y R x t htY).1
          have hzk := (mv_at P Y R x t htY).2
          have hup := mv_up P Y R x t htY
          rw [← hzz] at hzk hup
          rw [← HA0.out] at hxk hzk hup
          have hup := Lib.hid hup
          have ll : A0 + t < (mv P Y R x t).length := (List.getElem?_eq_some_iff.1 hxk).1
          have lr : A0 + t + 1 < ((mv P Y R x t).set (A0 + t) z).length := by rw [List.length_set]; exact (List.getElem?_eq_some_iff.1 hzk).1
          have q1 : (0 : Int) ≤ (A0 : Int) + (t : Int) := by omega
          have q2 : (A0 : Int) + (t : Int) < (N : Int) := by omega
          have q3 : (0 : Int) ≤ (A0 : Int) + (t : Int) + 1 := by omega
          have q4 : (A0 : Int) + (t : Int) + 1 < (N : Int) := by omega
          clear hzz
          go_wp2_with fail
          refine wp_region_held_drew (S := fun _ => True) (by kernel_rfl) trivial (fun hHeld => ?_)
          refine take_at 0 61 (.slice (some ⟨g, 0, none⟩) N cap) rfl (by rfl) (by kernel_rfl) (by kernel_rfl) (by kernel_rfl) (fun _ _ _ h => h) (Or.inl ⟨by rfl, fun w' hSw => by go_simp⟩) (by assumption) ?_
          simp only [List.setIfInBounds_toArray, List.set_cons_zero, List.set_cons_succ]
          refine take_at 1 62 (.int .i64 ((A0 : Int) + (t : Int))) rfl (by rfl) (by kernel_rfl) (by kernel_rfl) (by kernel_rfl) (fun _ _ _ h => h) (Or.inl ⟨by rfl, fun w' hSw => by go_simp⟩) (by assumption) ?_
          simp only [List.setIfInBounds_toArray, List.set_cons_zero, List.set_cons_succ]
          refine take_at 2 63 (.slice (some ⟨g, 0, none⟩) N cap) rfl (by rfl) (by kernel_rfl) (by kernel_rfl) (by kernel_rfl) (fun _ _ _ h => h) (Or.inl ⟨by rfl, fun w' hSw => by go_simp⟩) (by assumption) ?_
          simp only [List.setIfInBounds_toArray, List.set_cons_zero, List.set_cons_succ]
          refine take_at 3 64 (.int .i64 ((A0 : Int) + (t : Int))) rfl (by rfl) (by kernel_rfl) (by kernel_rfl) (by kernel_rfl) (fun _ _ _ h => h) (Or.inl ⟨by rfl, fun w' hSw => by go_simp⟩) (by assumption) ?_
          simp only [List.setIfInBounds_toArray, List.set_cons_zero, List.set_cons_succ]
          refine take_at 4 65 (.int .i64 ((A0 : Int) + (t : Int) + 1)) rfl (by rfl) (by kernel_rfl) (by kernel_rfl) (by kernel_rfl) (fun _ _ _ h => h) (Or.inl ⟨by rfl, fun w' hSw => by go_simp <;> exact IntWalk.i64_in _ ⟨by omega, by omega⟩⟩) (by assumption) ?_
          simp only [List.setIfInBounds_toArray, List.set_cons_zero, List.set_cons_succ]
          refine take_at 5 66 (.slice (some ⟨g, 0, none⟩) N cap) rfl (by rfl) (by kernel_rfl) (by kernel_rfl) (by kernel_rfl) (fun _ _ _ h => h) (Or.inl ⟨by rfl, fun w' hSw => by go_simp⟩) (by assumption) ?_
          simp only [List.setIfInBounds_toArray, List.set_cons_zero, List.set_cons_succ]
          refine take_at 6 67 (.int .i64 ((A0 : Int) + (t : Int))) rfl (by rfl) (by kernel_rfl) (by kernel_rfl) (by kernel_rfl) (fun _ _ _ h => h) (Or.inl ⟨by rfl, fun w' hSw => by go_simp⟩) (by assumption) ?_
          simp only [List.setIfInBounds_toArray, List.set_cons_zero, List.set_cons_succ]
          refine take_at 7 68 (.int .i64 ((A0 : Int) + (t : Int) + 1)) rfl (by rfl) (by kernel_rfl) (by kernel_rfl) (by kernel_rfl) (fun _ _ _ h => h) (Or.inl ⟨by rfl, fun w' hSw => by go_simp <;> exact IntWalk.i64_in _ ⟨by omega, by omega⟩⟩) (by assumption) ?_
          simp only [List.setIfInBounds_toArray, List.set_cons_zero, List.set_cons_succ]
          refine take_at 8 69 (.pointer (some ⟨g, (A0 + t + 1) * 3, none⟩)) rfl (by rfl) (by kernel_rfl) (by kernel_rfl) (by kernel_rfl) (fun _ _ _ h => h) (Or.inl ⟨by rfl, fun w' hSw => by go_simp⟩) (by assumption) ?_
          simp only [List.setIfInBounds_toArray, List.set_cons_zero, List.set_cons_succ]
          refine take_at 10 71 (.slice (some ⟨g, 0, none⟩) N cap) rfl (by rfl) (by kernel_rfl) (by kernel_rfl) (by kernel_rfl) (fun _ _ _ h => h) (Or.inl ⟨by rfl, fun w' hSw => by go_simp⟩) (by assumption) ?_
          simp only [List.setIfInBounds_toArray, List.set_cons_zero, List.set_cons_succ]
          refine take_at 11 72 (.int .i64 ((A0 : Int) + (t : Int))) rfl (by rfl) (by kernel_rfl) (by kernel_rfl) (by kernel_rfl) (fun _ _ _ h => h) (Or.inl ⟨by rfl, fun w' hSw => by go_simp⟩) (by assumption) ?_
          simp only [List.setIfInBounds_toArray, List.set_cons_zero, List.set_cons_succ]
          refine take_at 12 73 (.pointer (some ⟨g, (A0 + t) * 3, none⟩)) rfl (by rfl) (by kernel_rfl) (by kernel_rfl) (by kernel_rfl) (fun _ _ _ h => h) (Or.inl ⟨by rfl, fun w' hSw => by go_simp⟩) (by assumption) ?_
          simp only [List.setIfInBounds_toArray, List.set_cons_zero, List.set_cons_succ]
          have HAd := Lib.hid (Hid.out hArk).drew
          have HGd := Lib.hid (grown_trans (Hid.out hgk) (grown_drew _ (some g)))
          generalize wr.drew = X at *
          have H1 := Lib.hid (HAd.out.store enc_len ll z)
          have H2 := Lib.hid (show Arr enc 3 ((X.setCells g ((A0 + t) * 3) (enc z)).setCells g ((A0 + t + 1) * 3) (enc x)) g (mv P Y R x (t + 1)) by rw [← hup.out]; exact H1.out.store enc_len lr x)
          have G2 := Lib.hid (grown_trans (grown_trans HGd.out (grown_setCells X g ((A0 + t) * 3) (enc z))) (grown_setCells _ g ((A0 + t + 1) * 3) (enc x)))
          have HX := Lib.hid (HAd.out.range hxk)
          have HZ := Lib.hid (HAd.out.range hzk)
          clear hArk hgk
          refine wpAnyH_ready (rs := [9, 13]) (by kernel_rfl) (by simp) ?_
          refine all_at 9 70 (.agg (enc z).toArray) X rfl (by rfl) (by rfl) (load_run 41 (.tmp 69) rfl g ((A0 + t + 1) * 3) rfl (enc z) _ HZ.out Tryz.underlying41 rfl (by rw [enc_len]; exact infoE)) trivial (fun hHeld => ?_) ?_
          · simp only [List.setIfInBounds_toArray, List.set_cons_zero, List.set_cons_succ]
            refine wpAnyH_ready (rs := [13]) (by kernel_rfl) (by simp) ?_
            refine all_at 13 74 (.agg (enc x).toArray) X rfl (by rfl) (by rfl) (load_run 41 (.tmp 73) rfl g ((A0 + t) * 3) rfl (enc x) _ HX.out Tryz.underlying41 rfl (by rw [enc_len]; exact infoE)) trivial (fun hHeld => ?_) all_nil
            simp only [List.setIfInBounds_toArray, List.set_cons_zero, List.set_cons_succ]
            refine take_at 14 75 (.pointer (some ⟨g, (A0 + t) * 3, none⟩)) rfl (by rfl) (by kernel_rfl) (by kernel_rfl) (by kernel_rfl) (fun _ _ _ h => h) (Or.inl ⟨by rfl, fun w' hSw => by go_simp⟩) (by assumption) ?_
            simp only [List.setIfInBounds_toArray, List.set_cons_zero, List.set_cons_succ]
            refine wpAnyH_ready (rs := [15]) (by kernel_rfl) (by simp) ?_
            refine all_wp 15 _ (X.setCells g ((A0 + t) * 3) (enc z)) rfl (by rfl) (fun K' hk => wp_store_mid 41 (.tmp 75) (.tmp 70) rfl g ((A0 + t) * 3) (enc z).toArray rfl rfl (HAd.out.there enc_len ll) (by rw [List.size_toArray, enc_len]; exact infoE) (all_oneCell_toArray (enc_one _)) (by simpa only [List.toList_toArray] using hk)) trivial (fun hHeld => ?_) all_nil
            simp only [Act.put]
            refine take_at 16 76 (.pointer (some ⟨g, (A0 + t + 1) * 3, none⟩)) rfl (by rfl) (by kernel_rfl) (by kernel_rfl) (by kernel_rfl) (fun _ _ _ h => h) (Or.inl ⟨by rfl, fun w' hSw => by go_simp⟩) (by assumption) ?_
            simp only [List.setIfInBounds_toArray, List.set_cons_zero, List.set_cons_succ]
            refine wpAnyH_ready (rs := [17]) (by kernel_rfl) (by simp) ?_
            refine all_wp 17 _ ((X.setCells g ((A0 + t) * 3) (enc z)).setCells g ((A0 + t + 1) * 3) (enc x)) rfl (by rfl) (fun K' hk => wp_store_mid 41 (.tmp 76) (.tmp 74) rfl g ((A0 + t + 1) * 3) (enc x).toArray rfl rfl (H1.out.there enc_len lr) (by rw [List.size_toArray, enc_len]; exact infoE) (all_oneCell_toArray (enc_one _)) (by simpa only [List.toList_toArray] using hk)) trivial (fun hHeld => ?_) all_nil
            simp only [Act.put]
            refine wpAnyH_done (by kernel_rfl) ?_ _
            generalize ((X.setCells g ((A0 + t) * 3) (enc z)).setCells g ((A0 + t + 1) * 3) (enc x)) = Z at *
            clear H1 HAd HGd HX HZ
            go_wp2
            refine ⟨⟨_, _, _, _, _, _, _, _, _, _, _, _, _, _, _, _, _, _, _, _, _, _, _, ⟨t + 1, by omega, ?_, H2.out, G2.out⟩, rfl⟩, by simp [intOf] <;> omega⟩
            go_num
          refine all_at 13 74 (.agg (enc x).toArray) X rfl (by rfl) (by rfl) (load_run 41 (.tmp 73) rfl g ((A0 + t) * 3) rfl (enc x) _ HX.out Tryz.underlying41 rfl (by rw [enc_len]; exact infoE)) trivial (fun hHeld => ?_) all_nil
          simp only [List.setIfInBounds_toArray, List.set_cons_zero, List.set_cons_succ]
          refine wpAnyH_ready (rs := [9]) (by kernel_rfl) (by simp) ?_
          refine all_at 9 70 (.agg (enc z).toArray) X rfl (by rfl) (by rfl) (load_run 41 (.tmp 69) rfl g ((A0 + t + 1) * 3) rfl (enc z) _ HZ.out Tryz.underlying41 rfl (by rw [enc_len]; exact infoE)) trivial (fun hHeld => ?_) all_nil
          simp only [List.setIfInBounds_toArray, List.set_cons_zero, List.set_cons_succ]
          refine take_at 14 75 (.pointer (some ⟨g, (A0 + t) * 3, none⟩)) rfl (by rfl) (by kernel_rfl) (by kernel_rfl) (by kernel_rfl) (fun _ _ _ h => h) (Or.inl ⟨by rfl, fun w' hSw => by go_simp⟩) (by assumption) ?_
          simp only [List.setIfInBounds_toArray, List.set_cons_zero, List.set_cons_succ]
          refine wpAnyH_ready (rs := [15]) (by kernel_rfl) (by simp) ?_
          refine all_wp 15 _ (X.setCells g ((A0 + t) * 3) (enc z)) rfl (by rfl) (fun K' hk => wp_store_mid 41 (.tmp 75) (.tmp 70) rfl g ((A0 + t) * 3) (enc z).toArray rfl rfl (HAd.out.there enc_len ll) (by rw [List.size_toArray, enc_len]; exact infoE) (all_oneCell_toArray (enc_one _)) (by simpa only [List.toList_toArray] using hk)) trivial (fun hHeld => ?_) all_nil
          simp only [Act.put]
          refine take_at 16 76 (.pointer (some ⟨g, (A0 + t + 1) * 3, none⟩)) rfl (by rfl) (by kernel_rfl) (by kernel_rfl) (by kernel_rfl) (fun _ _ _ h => h) (Or.inl ⟨by rfl, fun w' hSw => by go_simp⟩) (by assumption) ?_
          simp only [List.setIfInBounds_toArray, List.set_cons_zero, List.set_cons_succ]
          refine wpAnyH_ready (rs := [17]) (by kernel_rfl) (by simp) ?_
          refine all_wp 17 _ ((X.setCells g ((A0 + t) * 3) (enc z)).setCells g ((A0 + t + 1) * 3) (enc x)) rfl (by rfl) (fun K' hk => wp_store_mid 41 (.tmp 76) (.tmp 74) rfl g ((A0 + t + 1) * 3) (enc x).toArray rfl rfl (H1.out.there enc_len lr) (by rw [List.size_toArray, enc_len]; exact infoE) (all_oneCell_toArray (enc_one _)) (by simpa only [List.toList_toArray] using hk)) trivial (fun hHeld => ?_) all_nil
          simp only [Act.put]
          refine wpAnyH_done (by kernel_rfl) ?_ _
          generalize ((X.setCells g ((A0 + t) * 3) (enc z)).setCells g ((A0 + t + 1) * 3) (enc x)) = Z at *
          clear H1 HAd HGd HX HZ
          go_wp2
          refine ⟨⟨_, _, _, _, _, _, _, _, _, _, _, _, _, _, _, _, _, _, _, _, _, _, _, ⟨t + 1, by omega, ?_, H2.out, G2.out⟩, rfl⟩, by simp [intOf] <;> omega⟩
          go_num
        · obtain rfl : t = p := by omega
          have hfin : Merged P [x] Y R g w wr := by
            refine ⟨Y.take t ++ x :: Y.drop t, ?_, ?_, HM.out.1, HM.out.2, Hid.out hgk⟩
            · have e : P ++ ((Y.take t ++ x :: Y.drop t) ++ R) = mv P Y R x t := by simp [mv]
              rw [e]; exact Hid.out hArk
            · simp only [List.length_append, List.length_cons, List.length_take, List.length_drop, List.length_nil]; omega
          have HF := Lib.hid hfin
          clear hfin hArk hgk
          go_wp2
          exact ⟨rfl, _, results_none rfl _ _ _, rfl, HF.out⟩
end Go.Proofs.YtjkmfonngbendaaGreatDoor.Sc
