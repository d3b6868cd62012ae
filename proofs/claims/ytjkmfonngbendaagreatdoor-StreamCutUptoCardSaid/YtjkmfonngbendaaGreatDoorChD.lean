/- Contract of package slices' insertionSortCmpFunc at changes: a stretch of the list is put into order, those of one key staying as they stood. -/
import Derived.Test.YtjkmfonngbendaaGreatDoorChC
import Derived.LoopTactic
namespace Go.Proofs.YtjkmfonngbendaaGreatDoor.Sc
set_option linter.unusedVariables false
set_option maxRecDepth 100000
open Go.ChangeShapes Go.WideShapes Go.ChangeAt Go.RowKit
open Ar Rg St
abbrev lt := By.bl
theorem O : Ord lt := By.blOrd
def InsO (P S R : List Ch) (q g : Nat) (w wr : World) : Prop := ∃ A : List Ch, Arr enc 3 wr g (P ++ (A ++ (S.drop q ++ R))) ∧ A.length = q ∧ Srt key lt A ∧ Sm key (S.take q) A ∧ w.grownBy wr (some g)
def InsI (P S R : List Ch) (q j g : Nat) (w wr : World) : Prop := ∃ (A1 A2 : List Ch) (x : Ch), Arr enc 3 wr g (P ++ (A1 ++ x :: (A2 ++ (S.drop (q + 1) ++ R)))) ∧ P.length + A1.length = j ∧ A1.length + A2.length = q ∧ Srt key lt (A1 ++ A2) ∧ (∀ y ∈ A2, lt (key x) (key y) = true) ∧ Sm key (S.take (q + 1)) (A1 ++ x :: A2) ∧ w.grownBy wr (some g)
theorem ins_in {P S R : List Ch} {q g : Nat} {w wr : World} (h : InsO P S R q g w wr) (hq : q < S.length) : InsI P S R q (P.length + q) g w wr := by
  obtain ⟨A, hA, hl, hs, hm, hg⟩ := h
  refine ⟨A, [], S[q], ?_, by omega, by simpa using hl, by simpa using hs, by simp, ?_, hg⟩
  · rw [List.drop_eq_getElem_cons hq] at hA
    simpa only [List.nil_append, List.cons_append] using hA
  · rw [List.take_succ_eq_append_getElem hq]
    exact Sm.append hm (Sm.refl _)
theorem ins_end {P S R : List Ch} {q j g : Nat} {w wr : World} (h : InsI P S R q j g w wr) (hj : j = P.length) : InsO P S R (q + 1) g w wr := by
  obtain ⟨A1, A2, x, hA, h1, h2, hs, hx, hm, hg⟩ := h
  have hn : A1 = [] := List.eq_nil_of_length_eq_zero (by omega)
  subst hn
  refine ⟨x :: A2, by simpa using hA, by simp at h2; simp [h2], ?_, by simpa using hm, hg⟩
  have := Srt.put (key := key) (lt := lt) (a := []) (b := A2) (x := x) hs (by simp) (fun y hy => O.asymm _ _ (hx y hy))
  simpa using this
theorem InsO.drewN {P S R : List Ch} {q g : Nat} {w wr : World} (h : InsO P S R q g w wr) (n : Nat) : InsO P S R q g w (wr.drewN n) := by
  obtain ⟨A, hA, hl, hs, hm, hg⟩ := h
  exact ⟨A, hA.block rfl, hl, hs, hm, ⟨hg.os, hg.tape, hg.output, hg.size, hg.block⟩⟩
theorem cmp_at (x y : Ch) (c : Int) (hc : cf x y = c) (w : World) : Calls Tryz.prog 84 #[.agg (enc x).toArray, .agg (enc y).toArray] w fun e w' => e = .returned (.int .i64 c) ∧ w.grownBy w' none := by
  subst hc
  exact cmp_any x y w
theorem ins_look {P S R : List Ch} {q k g : Nat} {w wr : World} (h : InsI P S R q (k + 1) g w wr) (hk : P.length ≤ k) (hq : q + 1 ≤ S.length) :
    ∃ (L : List Ch) (x y : Ch), Arr enc 3 wr g L ∧ L.length = (P ++ (S ++ R)).length ∧ L[k + 1]? = some x ∧ L[k]? = some y ∧ w.grownBy wr (some g) ∧
      (lt (key x) (key y) = false → ∀ wr', Arr enc 3 wr' g L → w.grownBy wr' (some g) → InsO P S R (q + 1) g w wr') ∧
      (lt (key x) (key y) = true → ∀ wr', Arr enc 3 wr' g ((L.set (k + 1) y).set k x) → w.grownBy wr' (some g) → InsI P S R q k g w wr') := by
  obtain ⟨A1, A2, x, hA, h1, h2, hs, hx, hm, hg⟩ := h
  obtain ⟨B, y, rfl⟩ : ∃ B y, A1 = B ++ [y] := by
    rcases List.eq_nil_or_concat A1 with e | ⟨B, y, e⟩
    · subst e; simp at h1; omega
    · exact ⟨B, y, by simpa using e⟩
  have hlB : (P ++ B).length = k := by simp only [List.length_append, List.length_cons, List.length_nil] at h1 ⊢; omega
  have e1 : P ++ (B ++ [y] ++ x :: (A2 ++ (S.drop (q + 1) ++ R))) = (P ++ B) ++ y :: (x :: (A2 ++ (S.drop (q + 1) ++ R))) := by simp
  have e2 : (P ++ B) ++ y :: (x :: (A2 ++ (S.drop (q + 1) ++ R))) = ((P ++ B) ++ [y]) ++ x :: (A2 ++ (S.drop (q + 1) ++ R)) := by simp
  rw [e1] at hA
  refine ⟨_, x, y, hA, ?_, ?_, get_mid _ _ _ _ hlB.symm, hg, fun hlt wr' hA' hg' => ?_, fun hlt wr' hA' hg' => ?_⟩
  · simp only [List.length_append, List.length_cons, List.length_drop, List.length_nil] at h1 h2 ⊢; omega
  · rw [e2]
    exact get_mid _ _ _ _ (by rw [List.length_append, hlB]; rfl)
  · refine ⟨(B ++ [y]) ++ x :: A2, ?_, ?_, ?_, hm, hg'⟩
    · have e : P ++ ((B ++ [y]) ++ x :: A2 ++ (S.drop (q + 1) ++ R)) = (P ++ B) ++ y :: (x :: (A2 ++ (S.drop (q + 1) ++ R))) := by simp
      rw [e]; exact hA'
    · simp only [List.length_append, List.length_cons, List.length_nil] at h2 ⊢; omega
    · exact Srt.put hs (Srt.snoc_le O (Srt.append.1 hs).1 hlt) (fun z hz => O.asymm _ _ (hx z hz))
  · rw [e2, set_mid _ _ _ _ _ (by rw [List.length_append, hlB]; rfl)] at hA'
    have e3 : ((P ++ B) ++ [y]) ++ y :: (A2 ++ (S.drop (q + 1) ++ R)) = (P ++ B) ++ y :: (y :: (A2 ++ (S.drop (q + 1) ++ R))) := by simp
    rw [e3, set_mid _ _ _ _ _ hlB.symm] at hA'
    refine ⟨B, y :: A2, x, ?_, ?_, ?_, ?_, ?_, ?_, hg'⟩
    · have e : P ++ (B ++ x :: (y :: A2 ++ (S.drop (q + 1) ++ R))) = (P ++ B) ++ x :: (y :: (A2 ++ (S.drop (q + 1) ++ R))) := by simp
      rw [e]; exact hA'
    · rw [List.length_append] at hlB; omega
    · simp only [List.length_append, List.length_cons, List.length_nil] at h2 ⊢; omega
    · have e : B ++ y :: A2 = B ++ [y] ++ A2 := by simp
      rw [e]; exact hs
    · intro z hz
      rcases List.mem_cons.1 hz with rfl | hz
      · exact hlt
      · exact hx z hz
    · refine hm.trans ?_
      have e : B ++ [y] ++ x :: A2 = B ++ ([y] ++ [x]) ++ A2 := by simp
      have e' : B ++ x :: y :: A2 = B ++ ([x] ++ [y]) ++ A2 := by simp
      rw [e, e']
      refine Sm.append (Sm.append (Sm.refl _) (Sm.swap fun a ha b hb => ?_)) (Sm.refl _)
      simp at ha hb
      subst ha hb
      exact (O.ne hlt).symm
set_option maxRecDepth 100000 in
set_option maxHeartbeats 2000000 in
theorem insertion_any (P S R D : List Ch) (hD : D = P ++ (S ++ R)) (hS : 0 < S.length) (g cap N : Nat) (hN : N = D.length) (hL : N ≤ cap) (hm : N ≤ 281474976710656) (w : World) (hA : Arr enc 3 w g D) (a b : Int) (ha : a = (P.length : Int)) (hb : b = (P.length : Int) + S.length) :
    Calls Tryz.prog 171 #[.slice (some ⟨g, 0, none⟩) N cap, .int .i64 a, .int .i64 b, CMP] w fun e w' => e = .returned (.tuple #[]) ∧ ∃ S', Arr enc 3 w' g (P ++ (S' ++ R)) ∧ S'.length = S.length ∧ Srt key lt S' ∧ Sm key S S' ∧ w.grownBy w' (some g) := by
  have h1 : InsO P S R 1 g w w := by
    refine ⟨S.take 1, ?_, by rw [List.length_take]; omega, Srt.short (by rw [List.length_take]; omega), Sm.refl _, grown_refl _ _⟩
    have e : S.take 1 ++ (S.drop 1 ++ R) = S ++ R := by rw [← List.append_assoc, List.take_append_drop]
    rw [e, ← hD]; exact hA
  have H1 := Lib.hid h1
  have hNN : N = (P ++ (S ++ R)).length := by rw [hN, hD]
  have HN := Lib.hid hNN
  have hlen : P.length + S.length ≤ N := by rw [hNN]; simp only [List.length_append]; omega
  obtain ⟨A0, hA0⟩ : ∃ M : Nat, M = P.length := ⟨_, rfl⟩
  obtain ⟨sl, hsl⟩ : ∃ n, n = S.length := ⟨_, rfl⟩
  rw [← hA0] at ha hb hlen
  rw [← hsl] at hb hlen hS
  have HA0 := Lib.hid hA0
  have HSL := Lib.hid hsl
  clear hA hD hN h1 hNN hA0 hsl
  subst ha hb
  unfold CMP
  go_enter Tryz.func171, Tryz.ntmps171
  go_wp2_with fail
  go_loopw [8] (fun v wr => ∃ q : Nat, 1 ≤ q ∧ q ≤ sl ∧ v = .int .i64 ((A0 : Int) + q) ∧ Hid (InsO P S R q g w wr)) (fun v _ => A0 + sl - (intOf v).toNat)
  case atStart => exact ⟨1, Nat.le_refl _, hS, by go_num, H1.out⟩
  case round =>
    clear H1
    obtain ⟨q, hq1, hq2, rfl, ho⟩ := hrel
    by_cases hlt : q < sl
    · go_wp2_with fail
      go_loopw [9] (fun v wi => ∃ j : Nat, A0 ≤ j ∧ j ≤ A0 + q ∧ v = .int .i64 j ∧ Hid (InsI P S R q j g w wi)) (fun v _ => (intOf v).toNat)
      case atStart => exact ⟨A0 + q, by omega, Nat.le_refl _, by go_num, by have := ins_in (Hid.out ho) (by rw [← HSL.out]; exact hlt); rw [← HA0.out] at this; exact this⟩
      case round =>
        obtain ⟨j, hj1, hj2, rfl, hi⟩ := hrel
        by_cases hj : j = A0
        · subst hj
          have hgo : decide ((j : Int) < (j : Int)) = false := by simp
          have hou := Lib.hid (ins_end (Hid.out hi) HA0.out)
          go_wp2_with fail
          go_quiet (fail)
          have HOU := Lib.hid (hou.out.drewN nq)
          clear hou hi
          generalize World.drewN _ _ = W1 at *
          go_wp2
          exact ⟨⟨q + 1, by omega, by omega, by go_num, HOU.out⟩, by simp [intOf]; omega⟩
        · obtain ⟨k, rfl⟩ : ∃ k, j = k + 1 := ⟨j - 1, by omega⟩
          obtain ⟨L, x, y, hAL, hLl, hx, hy, hgr, hno, hyes⟩ := ins_look (Hid.out hi) (by rw [← HA0.out]; omega) (by rw [← HSL.out]; omega)
          rw [← HN.out] at hLl
          obtain ⟨c, hcf⟩ : ∃ c, cf x y = c := ⟨_, rfl⟩
          have hcl := cf_lt x y
          rw [hcf] at hcl
          have HI := hi
          have q1 : (0 : Int) ≤ (k : Int) + 1 := by omega
          have q2 : (k : Int) + 1 < (N : Int) := by have := (List.getElem?_eq_some_iff.1 hx).1; omega
          have q3 : (0 : Int) ≤ (k : Int) := by omega
          have q4 : (k : Int) < (N : Int) := by omega
          have q5 : (A0 : Int) < (k : Int) + 1 := by omega
          by_cases hlt2 : lt (key x) (key y) = true
          · have hc0 : c < 0 := hcl.2 hlt2
            clear hcl
            go_wp2_with fail
            refine wp_region_held_drew (S := fun w' => Arr enc 3 w' g L ∧ w.grownBy w' (some g)) (by kernel_rfl) ⟨hAL.drew, grown_trans hgr (grown_drew _ _)⟩ (fun hHeld => ?_)
            refine take_at 0 18 (.int .i64 ((k : Int) + 1)) rfl (by rfl) (by kernel_rfl) (by kernel_rfl) (by kernel_rfl) (fun _ _ _ h => h) (Or.inl ⟨by rfl, fun w' hSw => by go_simp⟩) (by assumption) ?_
            simp only [List.setIfInBounds_toArray, List.set_cons_zero, List.set_cons_succ]
            refine take_at 1 19 (.int .i64 A0) rfl (by rfl) (by kernel_rfl) (by kernel_rfl) (by kernel_rfl) (fun _ _ _ h => h) (Or.inl ⟨by rfl, fun w' hSw => by go_simp⟩) (by assumption) ?_
            simp only [List.setIfInBounds_toArray, List.set_cons_zero, List.set_cons_succ]
            refine take_at 2 20 (.bool true) rfl (by rfl) (by kernel_rfl) (by kernel_rfl) (by kernel_rfl) (fun _ _ _ h => h) (Or.inl ⟨by rfl, fun w' hSw => by go_simp⟩) (by assumption) ?_
            simp only [List.setIfInBounds_toArray, List.set_cons_zero, List.set_cons_succ]
            refine take_at 3 21 (.bool true) rfl (by rfl) (by kernel_rfl) (by kernel_rfl) (by kernel_rfl) (fun _ _ _ h => h) (Or.inl ⟨by rfl, fun w' hSw => by go_simp⟩) (by assumption) ?_
            simp only [List.setIfInBounds_toArray, List.set_cons_zero, List.set_cons_succ]
            refine take_at 4 22 (.func (.func 84) #[] #[]) rfl (by rfl) (by kernel_rfl) (by kernel_rfl) (by kernel_rfl) (fun _ _ _ h => h) (Or.inl ⟨by rfl, fun w' hSw => by go_simp⟩) (by assumption) ?_
            simp only [List.setIfInBounds_toArray, List.set_cons_zero, List.set_cons_succ]
            refine take_at 5 23 (.slice (some ⟨g, 0, none⟩) N cap) rfl (by rfl) (by kernel_rfl) (by kernel_rfl) (by kernel_rfl) (fun _ _ _ h => h) (Or.inl ⟨by rfl, fun w' hSw => by go_simp⟩) (by assumption) ?_
            simp only [List.setIfInBounds_toArray, List.set_cons_zero, List.set_cons_succ]
            refine take_at 6 24 (.int .i64 ((k : Int) + 1)) rfl (by rfl) (by kernel_rfl) (by kernel_rfl) (by kernel_rfl) (fun _ _ _ h => h) (Or.inl ⟨by rfl, fun w' hSw => by go_simp⟩) (by assumption) ?_
            simp only [List.setIfInBounds_toArray, List.set_cons_zero, List.set_cons_succ]
            refine take_at 7 25 (.pointer (some ⟨g, (k + 1) * 3, none⟩)) rfl (by rfl) (by kernel_rfl) (by kernel_rfl) (by kernel_rfl) (fun _ _ _ h => h) (Or.inl ⟨by rfl, fun w' hSw => by go_simp⟩) (by assumption) ?_
            simp only [List.setIfInBounds_toArray, List.set_cons_zero, List.set_cons_succ]
            refine take_at 8 26 (.agg (enc x).toArray) rfl (by rfl) (by kernel_rfl) (by kernel_rfl) (by kernel_rfl) (fun _ _ _ h => h) (yieldsIf_load_mid (by rfl) _ _ rfl _ _ rfl (enc x) _ (fun w' hSw => hSw.1.range hx) Tryz.underlying41 rfl (by rw [enc_len]; exact infoE)) (by assumption) ?_
            simp only [List.setIfInBounds_toArray, List.set_cons_zero, List.set_cons_succ]
            refine take_at 9 27 (.slice (some ⟨g, 0, none⟩) N cap) rfl (by rfl) (by kernel_rfl) (by kernel_rfl) (by kernel_rfl) (fun _ _ _ h => h) (Or.inl ⟨by rfl, fun w' hSw => by go_simp⟩) (by assumption) ?_
            simp only [List.setIfInBounds_toArray, List.set_cons_zero, List.set_cons_succ]
            refine take_at 10 28 (.int .i64 ((k : Int) + 1)) rfl (by rfl) (by kernel_rfl) (by kernel_rfl) (by kernel_rfl) (fun _ _ _ h => h) (Or.inl ⟨by rfl, fun w' hSw => by go_simp⟩) (by assumption) ?_
            simp only [List.setIfInBounds_toArray, List.set_cons_zero, List.set_cons_succ]
            refine take_at 11 29 (.int .i64 k) rfl (by rfl) (by kernel_rfl) (by kernel_rfl) (by kernel_rfl) (fun _ _ _ h => h) (Or.inl ⟨by rfl, fun w' hSw => by go_simp <;> exact IntWalk.i64_in _ ⟨by omega, by omega⟩⟩) (by assumption) ?_
            simp only [List.setIfInBounds_toArray, List.set_cons_zero, List.set_cons_succ]
            refine take_at 12 30 (.pointer (some ⟨g, k * 3, none⟩)) rfl (by rfl) (by kernel_rfl) (by kernel_rfl) (by kernel_rfl) (fun _ _ _ h => h) (Or.inl ⟨by rfl, fun w' hSw => by go_simp⟩) (by assumption) ?_
            simp only [List.setIfInBounds_toArray, List.set_cons_zero, List.set_cons_succ]
            refine take_at 13 31 (.agg (enc y).toArray) rfl (by rfl) (by kernel_rfl) (by kernel_rfl) (by kernel_rfl) (fun _ _ _ h => h) (yieldsIf_load_mid (by rfl) _ _ rfl _ _ rfl (enc y) _ (fun w' hSw => hSw.1.range hy) Tryz.underlying41 rfl (by rw [enc_len]; exact infoE)) (by assumption) ?_
            simp only [List.setIfInBounds_toArray, List.set_cons_zero, List.set_cons_succ]
            refine wpAnyH_ready (rs := [14]) (by kernel_rfl) (by simp) ?_
            refine AllReadyH.cons rfl (fun K hK => ?_) AllReadyH.nil
            go_simp
            go_wp2_with (go_at_call 84; refine (cmp_at x y c hcf _).mono ?_; rintro e w5 ⟨rfl, hg5⟩)
            refine hK.out _ _ ⟨hHeld.1.grown0 enc_len (by omega) hg5, grown_trans hHeld.2 (grown_weak hg5 _)⟩ (fun hHeld => ?_)
            clear hK K
            refine take_at 15 33 (.bool true) rfl (by rfl) (by kernel_rfl) (by kernel_rfl) (by kernel_rfl) (fun _ _ _ h => h) (Or.inl ⟨by rfl, fun w' hSw => by go_simp⟩) (by assumption) ?_
            simp only [List.setIfInBounds_toArray, List.set_cons_zero, List.set_cons_succ]
            refine take_at 16 34 (.bool true) rfl (by rfl) (by kernel_rfl) (by kernel_rfl) (by kernel_rfl) (fun _ _ _ h => h) (Or.inl ⟨by rfl, fun w' hSw => by go_simp⟩) (by assumption) ?_
            simp only [List.setIfInBounds_toArray, List.set_cons_zero, List.set_cons_succ]
            refine wpAnyH_done (by kernel_rfl) ?_ _
            obtain ⟨hHeld2, hHeld3⟩ := hHeld
            have HA1 := Lib.hid hHeld2.drew
            have HG1 := Lib.hid (grown_trans hHeld3 (grown_drew _ (some g)))
            have HYES := Lib.hid (hyes hlt2)
            clear hHeld2 hHeld3 hAL hgr hno hyes hcf
            go_wp2_with fail
            refine wp_region_held_drew (S := fun _ => True) (by kernel_rfl) trivial (fun hHeld => ?_)
            refine take_at 0 37 (.slice (some ⟨g, 0, none⟩) N cap) rfl (by rfl) (by kernel_rfl) (by kernel_rfl) (by kernel_rfl) (fun _ _ _ h => h) (Or.inl ⟨by rfl, fun w' hSw => by go_simp⟩) (by assumption) ?_
            simp only [List.setIfInBounds_toArray, List.set_cons_zero, List.set_cons_succ]
            refine take_at 1 38 (.int .i64 ((k : Int) + 1)) rfl (by rfl) (by kernel_rfl) (by kernel_rfl) (by kernel_rfl) (fun _ _ _ h => h) (Or.inl ⟨by rfl, fun w' hSw => by go_simp⟩) (by assumption) ?_
            simp only [List.setIfInBounds_toArray, List.set_cons_zero, List.set_cons_succ]
            refine take_at 2 39 (.slice (some ⟨g, 0, none⟩) N cap) rfl (by rfl) (by kernel_rfl) (by kernel_rfl) (by kernel_rfl) (fun _ _ _ h => h) (Or.inl ⟨by rfl, fun w' hSw => by go_simp⟩) (by assumption) ?_
            simp only [List.setIfInBounds_toArray, List.set_cons_zero, List.set_cons_succ]
            refine take_at 3 40 (.int .i64 ((k : Int) + 1)) rfl (by rfl) (by kernel_rfl) (by kernel_rfl) (by kernel_rfl) (fun _ _ _ h => h) (Or.inl ⟨by rfl, fun w' hSw => by go_simp⟩) (by assumption) ?_
            simp only [List.setIfInBounds_toArray, List.set_cons_zero, List.set_cons_succ]
            refine take_at 4 41 (.int .i64 k) rfl (by rfl) (by kernel_rfl) (by kernel_rfl) (by kernel_rfl) (fun _ _ _ h => h) (Or.inl ⟨by rfl, fun w' hSw => by go_simp <;> exact IntWalk.i64_in _ ⟨by omega, by omega⟩⟩) (by assumption) ?_
            simp only [List.setIfInBounds_toArray, List.set_cons_zero, List.set_cons_succ]
            refine take_at 5 42 (.slice (some ⟨g, 0, none⟩) N cap) rfl (by rfl) (by kernel_rfl) (by kernel_rfl) (by kernel_rfl) (fun _ _ _ h => h) (Or.inl ⟨by rfl, fun w' hSw => by go_simp⟩) (by assumption) ?_
            simp only [List.setIfInBounds_toArray, List.set_cons_zero, List.set_cons_succ]
            refine take_at 6 43 (.int .i64 ((k : Int) + 1)) rfl (by rfl) (by kernel_rfl) (by kernel_rfl) (by kernel_rfl) (fun _ _ _ h => h) (Or.inl ⟨by rfl, fun w' hSw => by go_simp⟩) (by assumption) ?_
            simp only [List.setIfInBounds_toArray, List.set_cons_zero, List.set_cons_succ]
            refine take_at 7 44 (.int .i64 k) rfl (by rfl) (by kernel_rfl) (by kernel_rfl) (by kernel_rfl) (fun _ _ _ h => h) (Or.inl ⟨by rfl, fun w' hSw => by go_simp <;> exact IntWalk.i64_in _ ⟨by omega, by omega⟩⟩) (by assumption) ?_
            simp only [List.setIfInBounds_toArray, List.set_cons_zero, List.set_cons_succ]
            refine take_at 8 45 (.pointer (some ⟨g, k * 3, none⟩)) rfl (by rfl) (by kernel_rfl) (by kernel_rfl) (by kernel_rfl) (fun _ _ _ h => h) (Or.inl ⟨by rfl, fun w' hSw => by go_simp⟩) (by assumption) ?_
            simp only [List.setIfInBounds_toArray, List.set_cons_zero, List.set_cons_succ]
            refine take_at 10 47 (.slice (some ⟨g, 0, none⟩) N cap) rfl (by rfl) (by kernel_rfl) (by kernel_rfl) (by kernel_rfl) (fun _ _ _ h => h) (Or.inl ⟨by rfl, fun w' hSw => by go_simp⟩) (by assumption) ?_
            simp only [List.setIfInBounds_toArray, List.set_cons_zero, List.set_cons_succ]
            refine take_at 11 48 (.int .i64 ((k : Int) + 1)) rfl (by rfl) (by kernel_rfl) (by kernel_rfl) (by kernel_rfl) (fun _ _ _ h => h) (Or.inl ⟨by rfl, fun w' hSw => by go_simp⟩) (by assumption) ?_
            simp only [List.setIfInBounds_toArray, List.set_cons_zero, List.set_cons_succ]
            refine take_at 12 49 (.pointer (some ⟨g, (k + 1) * 3, none⟩)) rfl (by rfl) (by kernel_rfl) (by kernel_rfl) (by kernel_rfl) (fun _ _ _ h => h) (Or.inl ⟨by rfl, fun w' hSw => by go_simp⟩) (by assumption) ?_
            simp only [List.setIfInBounds_toArray, List.set_cons_zero, List.set_cons_succ]
            have HAd := HA1
            have HGd := HG1
            generalize w5.drew = X at *
            have ll : k + 1 < L.length := (List.getElem?_eq_some_iff.1 hx).1
            have lr : k < (L.set (k + 1) y).length := by rw [List.length_set]; omega
            have H1 := Lib.hid (HAd.out.store enc_len ll y)
            have H2 := Lib.hid (H1.out.store enc_len lr x)
            have G2 := Lib.hid (grown_trans (grown_trans HGd.out (grown_setCells X g ((k + 1) * 3) (enc y))) (grown_setCells _ g (k * 3) (enc x)))
            have HX := Lib.hid (HAd.out.range hx)
            have HY := Lib.hid (HAd.out.range hy)
            refine wpAnyH_ready (rs := [9, 13]) (by kernel_rfl) (by simp) ?_
            refine all_at 9 46 (.agg (enc y).toArray) X rfl (by rfl) (by rfl) (load_run 41 (.tmp 45) rfl g (k * 3) rfl (enc y) _ HY.out Tryz.underlying41 rfl (by rw [enc_len]; exact infoE)) trivial (fun hHeld => ?_) ?_
            · simp only [List.setIfInBounds_toArray, List.set_cons_zero, List.set_cons_succ]
              refine wpAnyH_ready (rs := [13]) (by kernel_rfl) (by simp) ?_
              refine all_at 13 50 (.agg (enc x).toArray) X rfl (by rfl) (by rfl) (load_run 41 (.tmp 49) rfl g ((k + 1) * 3) rfl (enc x) _ HX.out Tryz.underlying41 rfl (by rw [enc_len]; exact infoE)) trivial (fun hHeld => ?_) all_nil
              simp only [List.setIfInBounds_toArray, List.set_cons_zero, List.set_cons_succ]
              refine take_at 14 51 (.pointer (some ⟨g, (k + 1) * 3, none⟩)) rfl (by rfl) (by kernel_rfl) (by kernel_rfl) (by kernel_rfl) (fun _ _ _ h => h) (Or.inl ⟨by rfl, fun w' hSw => by go_simp⟩) (by assumption) ?_
              simp only [List.setIfInBounds_toArray, List.set_cons_zero, List.set_cons_succ]
              refine wpAnyH_ready (rs := [15]) (by kernel_rfl) (by simp) ?_
              refine all_wp 15 _ (X.setCells g ((k + 1) * 3) (enc y)) rfl (by rfl) (fun K' hk => wp_store_mid 41 (.tmp 51) (.tmp 46) rfl g ((k + 1) * 3) (enc y).toArray rfl rfl (HAd.out.there enc_len ll) (by rw [List.size_toArray, enc_len]; exact infoE) (all_oneCell_toArray (enc_one _)) (by simpa only [List.toList_toArray] using hk)) trivial (fun hHeld => ?_) all_nil
              simp only [Act.put]
              refine take_at 16 52 (.pointer (some ⟨g, k * 3, none⟩)) rfl (by rfl) (by kernel_rfl) (by kernel_rfl) (by kernel_rfl) (fun _ _ _ h => h) (Or.inl ⟨by rfl, fun w' hSw => by go_simp⟩) (by assumption) ?_
              simp only [List.setIfInBounds_toArray, List.set_cons_zero, List.set_cons_succ]
              refine wpAnyH_ready (rs := [17]) (by kernel_rfl) (by simp) ?_
              refine all_wp 17 _ ((X.setCells g ((k + 1) * 3) (enc y)).setCells g (k * 3) (enc x)) rfl (by rfl) (fun K' hk => wp_store_mid 41 (.tmp 52) (.tmp 50) rfl g (k * 3) (enc x).toArray rfl rfl (H1.out.there enc_len lr) (by rw [List.size_toArray, enc_len]; exact infoE) (all_oneCell_toArray (enc_one _)) (by simpa only [List.toList_toArray] using hk)) trivial (fun hHeld => ?_) all_nil
              simp only [Act.put]
              refine wpAnyH_done (by kernel_rfl) ?_ _
              have HIN := Lib.hid (HYES.out _ H2.out G2.out)
              generalize ((X.setCells g ((k + 1) * 3) (enc y)).setCells g (k * 3) (enc x)) = Z at *
              clear H1 H2 G2 HA1 HG1 HAd HGd HX HY
              go_wp2
              exact ⟨⟨k, by omega, by omega, by go_num, HIN.out⟩, by simp [intOf] <;> omega⟩
            refine all_at 13 50 (.agg (enc x).toArray) X rfl (by rfl) (by rfl) (load_run 41 (.tmp 49) rfl g ((k + 1) * 3) rfl (enc x) _ HX.out Tryz.underlying41 rfl (by rw [enc_len]; exact infoE)) trivial (fun hHeld => ?_) all_nil
            simp only [List.setIfInBounds_toArray, List.set_cons_zero, List.set_cons_succ]
            refine wpAnyH_ready (rs := [9]) (by kernel_rfl) (by simp) ?_
            refine all_at 9 46 (.agg (enc y).toArray) X rfl (by rfl) (by rfl) (load_run 41 (.tmp 45) rfl g (k * 3) rfl (enc y) _ HY.out Tryz.underlying41 rfl (by rw [enc_len]; exact infoE)) trivial (fun hHeld => ?_) all_nil
            simp only [List.setIfInBounds_toArray, List.set_cons_zero, List.set_cons_succ]
            refine take_at 14 51 (.pointer (some ⟨g, (k + 1) * 3, none⟩)) rfl (by rfl) (by kernel_rfl) (by kernel_rfl) (by kernel_rfl) (fun _ _ _ h => h) (Or.inl ⟨by rfl, fun w' hSw => by go_simp⟩) (by assumption) ?_
            simp only [List.setIfInBounds_toArray, List.set_cons_zero, List.set_cons_succ]
            refine wpAnyH_ready (rs := [15]) (by kernel_rfl) (by simp) ?_
            refine all_wp 15 _ (X.setCells g ((k + 1) * 3) (enc y)) rfl (by rfl) (fun K' hk => wp_store_mid 41 (.tmp 51) (.tmp 46) rfl g ((k + 1) * 3) (enc y).toArray rfl rfl (HAd.out.there enc_len ll) (by rw [List.size_toArray, enc_len]; exact infoE) (all_oneCell_toArray (enc_one _)) (by simpa only [List.toList_toArray] using hk)) trivial (fun hHeld => ?_) all_nil
            simp only [Act.put]
            refine take_at 16 52 (.pointer (some ⟨g, k * 3, none⟩)) rfl (by rfl) (by kernel_rfl) (by kernel_rfl) (by kernel_rfl) (fun _ _ _ h => h) (Or.inl ⟨by rfl, fun w' hSw => by go_simp⟩) (by assumption) ?_
            simp only [List.setIfInBounds_toArray, List.set_cons_zero, List.set_cons_succ]
            refine wpAnyH_ready (rs := [17]) (by kernel_rfl) (by simp) ?_
            refine all_wp 17 _ ((X.setCells g ((k + 1) * 3) (enc y)).setCells g (k * 3) (enc x)) rfl (by rfl) (fun K' hk => wp_store_mid 41 (.tmp 52) (.tmp 50) rfl g (k * 3) (enc x).toArray rfl rfl (H1.out.there enc_len lr) (by rw [List.size_toArray, enc_len]; exact infoE) (all_oneCell_toArray (enc_one _)) (by simpa only [List.toList_toArray] using hk)) trivial (fun hHeld => ?_) all_nil
            simp only [Act.put]
            refine wpAnyH_done (by kernel_rfl) ?_ _
            have HIN := Lib.hid (HYES.out _ H2.out G2.out)
            generalize ((X.setCells g ((k + 1) * 3) (enc y)).setCells g (k * 3) (enc x)) = Z at *
            clear H1 H2 G2 HA1 HG1 HAd HGd HX HY
            go_wp2
            exact ⟨⟨k, by omega, by omega, by go_num, HIN.out⟩, by simp [intOf] <;> omega⟩
          · have hc0 : ¬ c < 0 := fun h => hlt2 (hcl.1 h)
            have hlt2 : lt (key x) (key y) = false := by simpa using hlt2
            have hc1 : 0 ≤ c := by omega
            clear hcl
            go_wp2_with fail
            refine wp_region_held_drew (S := fun w' => Arr enc 3 w' g L ∧ w.grownBy w' (some g)) (by kernel_rfl) ⟨hAL.drew, grown_trans hgr (grown_drew _ _)⟩ (fun hHeld => ?_)
            refine take_at 0 18 (.int .i64 ((k : Int) + 1)) rfl (by rfl) (by kernel_rfl) (by kernel_rfl) (by kernel_rfl) (fun _ _ _ h => h) (Or.inl ⟨by rfl, fun w' hSw => by go_simp⟩) (by assumption) ?_
            simp only [List.setIfInBounds_toArray, List.set_cons_zero, List.set_cons_succ]
            refine take_at 1 19 (.int .i64 A0) rfl (by rfl) (by kernel_rfl) (by kernel_rfl) (by kernel_rfl) (fun _ _ _ h => h) (Or.inl ⟨by rfl, fun w' hSw => by go_simp⟩) (by assumption) ?_
            simp only [List.setIfInBounds_toArray, List.set_cons_zero, List.set_cons_succ]
            refine take_at 2 20 (.bool true) rfl (by rfl) (by kernel_rfl) (by kernel_rfl) (by kernel_rfl) (fun _ _ _ h => h) (Or.inl ⟨by rfl, fun w' hSw => by go_simp⟩) (by assumption) ?_
            simp only [List.setIfInBounds_toArray, List.set_cons_zero, List.set_cons_succ]
            refine take_at 3 21 (.bool true) rfl (by rfl) (by kernel_rfl) (by kernel_rfl) (by kernel_rfl) (fun _ _ _ h => h) (Or.inl ⟨by rfl, fun w' hSw => by go_simp⟩) (by assumption) ?_
            simp only [List.setIfInBounds_toArray, List.set_cons_zero, List.set_cons_succ]
            refine take_at 4 22 (.func (.func 84) #[] #[]) rfl (by rfl) (by kernel_rfl) (by kernel_rfl) (by kernel_rfl) (fun _ _ _ h => h) (Or.inl ⟨by rfl, fun w' hSw => by go_simp⟩) (by assumption) ?_
            simp only [List.setIfInBounds_toArray, List.set_cons_zero, List.set_cons_succ]
            refine take_at 5 23 (.slice (some ⟨g, 0, none⟩) N cap) rfl (by rfl) (by kernel_rfl) (by kernel_rfl) (by kernel_rfl) (fun _ _ _ h => h) (Or.inl ⟨by rfl, fun w' hSw => by go_simp⟩) (by assumption) ?_
            simp only [List.setIfInBounds_toArray, List.set_cons_zero, List.set_cons_succ]
            refine take_at 6 24 (.int .i64 ((k : Int) + 1)) rfl (by rfl) (by kernel_rfl) (by kernel_rfl) (by kernel_rfl) (fun _ _ _ h => h) (Or.inl ⟨by rfl, fun w' hSw => by go_simp⟩) (by assumption) ?_
            simp only [List.setIfInBounds_toArray, List.set_cons_zero, List.set_cons_succ]
            refine take_at 7 25 (.pointer (some ⟨g, (k + 1) * 3, none⟩)) rfl (by rfl) (by kernel_rfl) (by kernel_rfl) (by kernel_rfl) (fun _ _ _ h => h) (Or.inl ⟨by rfl, fun w' hSw => by go_simp⟩) (by assumption) ?_
            simp only [List.setIfInBounds_toArray, List.set_cons_zero, List.set_cons_succ]
            refine take_at 8 26 (.agg (enc x).toArray) rfl (by rfl) (by kernel_rfl) (by kernel_rfl) (by kernel_rfl) (fun _ _ _ h => h) (yieldsIf_load_mid (by rfl) _ _ rfl _ _ rfl (enc x) _ (fun w' hSw => hSw.1.range hx) Tryz.underlying41 rfl (by rw [enc_len]; exact infoE)) (by assumption) ?_
            simp only [List.setIfInBounds_toArray, List.set_cons_zero, List.set_cons_succ]
            refine take_at 9 27 (.slice (some ⟨g, 0, none⟩) N cap) rfl (by rfl) (by kernel_rfl) (by kernel_rfl) (by kernel_rfl) (fun _ _ _ h => h) (Or.inl ⟨by rfl, fun w' hSw => by go_simp⟩) (by assumption) ?_
            simp only [List.setIfInBounds_toArray, List.set_cons_zero, List.set_cons_succ]
            refine take_at 10 28 (.int .i64 ((k : Int) + 1)) rfl (by rfl) (by kernel_rfl) (by kernel_rfl) (by kernel_rfl) (fun _ _ _ h => h) (Or.inl ⟨by rfl, fun w' hSw => by go_simp⟩) (by assumption) ?_
            simp only [List.setIfInBounds_toArray, List.set_cons_zero, List.set_cons_succ]
            refine take_at 11 29 (.int .i64 k) rfl (by rfl) (by kernel_rfl) (by kernel_rfl) (by kernel_rfl) (fun _ _ _ h => h) (Or.inl ⟨by rfl, fun w' hSw => by go_simp <;> exact IntWalk.i64_in _ ⟨by omega, by omega⟩⟩) (by assumption) ?_
            simp only [List.setIfInBounds_toArray, List.set_cons_zero, List.set_cons_succ]
            refine take_at 12 30 (.pointer (some ⟨g, k * 3, none⟩)) rfl (by rfl) (by kernel_rfl) (by kernel_rfl) (by kernel_rfl) (fun _ _ _ h => h) (Or.inl ⟨by rfl, fun w' hSw => by go_simp⟩) (by assumption) ?_
            simp only [List.setIfInBounds_toArray, List.set_cons_zero, List.set_cons_succ]
            refine take_at 13 31 (.agg (enc y).toArray) rfl (by rfl) (by kernel_rfl) (by kernel_rfl) (by kernel_rfl) (fun _ _ _ h => h) (yieldsIf_load_mid (by rfl) _ _ rfl _ _ rfl (enc y) _ (fun w' hSw => hSw.1.range hy) Tryz.underlying41 rfl (by rw [enc_len]; exact infoE)) (by assumption) ?_
            simp only [List.setIfInBounds_toArray, List.set_cons_zero, List.set_cons_succ]
            refine wpAnyH_ready (rs := [14]) (by kernel_rfl) (by simp) ?_
            refine AllReadyH.cons rfl (fun K hK => ?_) AllReadyH.nil
            go_simp
            go_wp2_with (go_at_call 84; refine (cmp_at x y c hcf _).mono ?_; rintro e w5 ⟨rfl, hg5⟩)
            refine hK.out _ _ ⟨hHeld.1.grown0 enc_len (by omega) hg5, grown_trans hHeld.2 (grown_weak hg5 _)⟩ (fun hHeld => ?_)
            clear hK K
            refine take_at 15 33 (.bool false) rfl (by rfl) (by kernel_rfl) (by kernel_rfl) (by kernel_rfl) (fun _ _ _ h => h) (Or.inl ⟨by rfl, fun w' hSw => by go_simp⟩) (by assumption) ?_
            simp only [List.setIfInBounds_toArray, List.set_cons_zero, List.set_cons_succ]
            refine take_at 16 34 (.bool false) rfl (by rfl) (by kernel_rfl) (by kernel_rfl) (by kernel_rfl) (fun _ _ _ h => h) (Or.inl ⟨by rfl, fun w' hSw => by go_simp⟩) (by assumption) ?_
            simp only [List.setIfInBounds_toArray, List.set_cons_zero, List.set_cons_succ]
            refine wpAnyH_done (by kernel_rfl) ?_ _
            have HOU := Lib.hid (hno hlt2 _ hHeld.1 hHeld.2)
            clear hHeld hno hyes hAL hgr
            go_wp2
            exact ⟨⟨q + 1, by omega, by omega, by go_num, HOU.out⟩, by simp [intOf]; omega⟩
    · obtain rfl : q = sl := by omega
      obtain ⟨A, h1, h2, h3, h4, h5⟩ := Hid.out ho
      have h6 : Arr enc 3 wr g (P ++ (A ++ R)) ∧ A.length = S.length ∧ Srt key lt A ∧ Sm key S A ∧ w.grownBy wr (some g) := by
        rw [HSL.out, List.drop_length, List.nil_append] at h1
        rw [HSL.out, List.take_length] at h4
        exact ⟨h1, by rw [h2, HSL.out], h3, h4, h5⟩
      have HF := Lib.hid h6
      clear h1 h2 h3 h4 h5 h6 ho
      go_wp2
      exact ⟨rfl, _, results_none rfl _ _ _, rfl, A, HF.out⟩
end Go.Proofs.YtjkmfonngbendaaGreatDoor.Sc
