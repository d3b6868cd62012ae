/- Contract of package dev's settle. -/
import Derived.Test.YtjkapmghifglcaaDoorDvR
namespace Go.Proofs.YtjkapmghifglcaaDoor.Dv
set_option linter.unusedVariables false
open Go.ChangeShapes Go.WideShapes Go.ChangeAt Go.RowKit
open Ar Rg St
theorem Box.range {w1 : World} {b N : Nat} {v1 v2 : Value} {dn : Bool} {fu : Int} (h : Box w1 b N v1 v2 dn fu) : w1.rangeAt b 0 [.int .u32 N, v1, v2, .bool dn, .int .i64 fu] := fun j v hv => by
  match j, hv with
  | 0, hv => simp at hv; subst hv; exact h.c0
  | 1, hv => simp at hv; subst hv; exact h.c1
  | 2, hv => simp at hv; subst hv; exact h.c2
  | 3, hv => simp at hv; subst hv; exact h.c3
  | 4, hv => simp at hv; subst hv; exact h.c4
set_option maxRecDepth 100000 in
set_option maxHeartbeats 2000000 in
theorem settle_all {w : World} {b N : Nat} (D W : List Bk) (A A' : Option Addr) (n c m c' : Nat) (dn : Bool) (fu : Int) (h : Box w b N (.slice A n c) (.slice A' m c') dn fu) (hn : n ≤ 1099511627776) (hm : m ≤ 1099511627776) (hup : UpK key D) (hD : SlB w A n c D) (hW : SlB w A' m c' W) (kf : Nat → Bool)
    (hkp : ∀ (i : Nat) (W' : World), Below w.heap.size w W' → Calls Tryd.prog 37 #[.int .i64 i] W' fun e w' => e = .returned (.bool (kf i)) ∧ W' = w') :
    Calls Tryd.prog 36 #[.pointer (some ⟨b, 0, none⟩), (.func (.func 37) #[] #[])] w fun e w' => e = .returned (.tuple #[]) ∧ ∃ A2 n2 c2, Box w' b N (.slice A2 n2 c2) (.slice none 0 0) dn fu ∧ Own w.heap.size w' (.slice A2 n2 c2) (app D (kpt kf W W.length)) ∧ Below b w w' := by
  have hbl : b < w.heap.size := World.block_lt_of_cell? w _ h.c0
  have hdr : Below w.heap.size w w.drew := (Below.refl _ _).drew
  have HNW := Lib.hid (newest_all N D W A A' n c m c' dn fu hm w.drew (hW.below hdr) kf (fun i W' hb => hkp i W' (hdr.trans hb)))
  have HB := Lib.hid (show Box w.drew b N (.slice A n c) (.slice A' m c') dn fu from h.below hdr hbl)
  have HD := Lib.hid (hD.below hdr)
  have HWL := Lib.hid hW.1
  clear hkp hD hW h
  have c1 := HB.out.c1
  unfold devV at HNW
  go_enter Tryd.func36, Tryd.ntmps36
  go_wp2_with fail
  refine wp_region_held_drew (S := fun _ => True) (by kernel_rfl) trivial (fun hHeld => ?_)
  refine take_at 0 4 (.pointer (some ⟨b, 0, none⟩)) rfl (by rfl) (by kernel_rfl) (by kernel_rfl) (by kernel_rfl) (fun _ _ _ h => h) (Or.inl ⟨by rfl, fun w' hSw => by go_simp⟩) (by assumption) ?_
  simp only [List.setIfInBounds_toArray, List.set_cons_zero, List.set_cons_succ]
  refine take_at 1 5 (.pointer (some ⟨b, 0, none⟩)) rfl (by rfl) (by kernel_rfl) (by kernel_rfl) (by kernel_rfl) (fun _ _ _ h => h) (Or.inl ⟨by rfl, fun w' hSw => by go_simp⟩) (by assumption) ?_
  simp only [List.setIfInBounds_toArray, List.set_cons_zero, List.set_cons_succ]
  refine take_at 2 6 (.pointer (some ⟨b, 0, none⟩)) rfl (by rfl) (by kernel_rfl) (by kernel_rfl) (by kernel_rfl) (fun _ _ _ h => h) (Or.inl ⟨by rfl, fun w' hSw => by go_simp⟩) (by assumption) ?_
  simp only [List.setIfInBounds_toArray, List.set_cons_zero, List.set_cons_succ]
  refine take_at 3 7 (.pointer (some ⟨b, 0, none⟩)) rfl (by rfl) (by kernel_rfl) (by kernel_rfl) (by kernel_rfl) (fun _ _ _ h => h) (Or.inl ⟨by rfl, fun w' hSw => by go_simp⟩) (by assumption) ?_
  simp only [List.setIfInBounds_toArray, List.set_cons_zero, List.set_cons_succ]
  refine take_at 4 8 (.pointer (some ⟨b, 1, none⟩)) rfl (by rfl) (by kernel_rfl) (by kernel_rfl) (by kernel_rfl) (fun _ _ _ h => h) (Or.inl ⟨by rfl, fun w' hSw => by go_simp⟩) (by assumption) ?_
  simp only [List.setIfInBounds_toArray, List.set_cons_zero, List.set_cons_succ]
  refine take_at 6 10 (.pointer (some ⟨b, 0, none⟩)) rfl (by rfl) (by kernel_rfl) (by kernel_rfl) (by kernel_rfl) (fun _ _ _ h => h) (Or.inl ⟨by rfl, fun w' hSw => by go_simp⟩) (by assumption) ?_
  simp only [List.setIfInBounds_toArray, List.set_cons_zero, List.set_cons_succ]
  refine take_at 7 11 (.pointer (some ⟨b, 0, none⟩)) rfl (by rfl) (by kernel_rfl) (by kernel_rfl) (by kernel_rfl) (fun _ _ _ h => h) (Or.inl ⟨by rfl, fun w' hSw => by go_simp⟩) (by assumption) ?_
  simp only [List.setIfInBounds_toArray, List.set_cons_zero, List.set_cons_succ]
  refine take_at 9 13 ((.func (.func 37) #[] #[])) rfl (by rfl) (by kernel_rfl) (by kernel_rfl) (by kernel_rfl) (fun _ _ _ h => h) (Or.inl ⟨by rfl, fun w' hSw => by go_simp⟩) (by assumption) ?_
  simp only [List.setIfInBounds_toArray, List.set_cons_zero, List.set_cons_succ]
  refine wpAnyH_ready (rs := [5, 8]) (by kernel_rfl) (by simp) ?_
  refine all_at 5 9 (.slice A n c) w.drew rfl (by rfl) (by rfl) (by go_simp) trivial (fun hHeld => ?_) (all_at 8 12 (.agg ([.int .u32 N, .slice A n c, .slice A' m c', .bool dn, .int .i64 fu] : List Value).toArray) w.drew rfl (by rfl) (by rfl) (load_run 57 (.tmp 11) rfl b 0 rfl [.int .u32 N, .slice A n c, .slice A' m c', .bool dn, .int .i64 fu] _ HB.out.range Tryd.underlying57 rfl (by kernel_rfl)) trivial (fun hHeld => ?_) all_nil)
  · simp only [List.setIfInBounds_toArray, List.set_cons_zero, List.set_cons_succ]
    refine wpAnyH_ready (rs := [8]) (by kernel_rfl) (by simp) ?_
    refine all_at 8 12 (.agg ([.int .u32 N, .slice A n c, .slice A' m c', .bool dn, .int .i64 fu] : List Value).toArray) w.drew rfl (by rfl) (by rfl) (load_run 57 (.tmp 11) rfl b 0 rfl [.int .u32 N, .slice A n c, .slice A' m c', .bool dn, .int .i64 fu] _ HB.out.range Tryd.underlying57 rfl (by kernel_rfl)) trivial (fun hHeld => ?_) all_nil
    simp only [List.setIfInBounds_toArray, List.set_cons_zero, List.set_cons_succ]
    refine wpAnyH_ready (rs := [10]) (by kernel_rfl) (by simp) ?_
    refine AllReadyH.cons rfl (fun K hK => ?_) AllReadyH.nil
    go_simp
    go_wp2_with (go_at_call 53; refine HNW.out.mono ?_; rintro e w5 ⟨⟨B, C, d, S, rfl, hSl, hSn, hSs, hSm⟩, hb5⟩)
    refine hK.out _ _ trivial (fun hHeld => ?_)
    clear hK K
    have HB5 := Lib.hid (HB.out.below hb5 hbl)
    have c1 := HB5.out.c1
    have HD5 := Lib.hid (HD.out.below hb5)
    have HS5 := Lib.hid hSl
    have HE5 := Lib.hid (app_kept HWL.out hup hSs hSm)
    have HU5 := Lib.hid (cm_spec hSs S.length (Nat.le_refl _)).1
    have HL5 := Lib.hid (show (cm S S.length).length ≤ 1099511627776 from Nat.le_trans (cm_len S S.length) (Nat.le_trans hSn hm))
    have hb5s : b < w5.heap.size := Nat.lt_of_lt_of_le hbl hb5.size
    have HW5 := Lib.hid (hdr.trans hb5)
    clear hSl hSn hSs hSm hb5
    refine wpAnyH_ready (rs := [11]) (by kernel_rfl) (by simp) ?_
    refine AllReadyH.cons rfl (fun K hK => ?_) AllReadyH.nil
    go_simp
    obtain ⟨m1, m2, m3, B1, m4, m5⟩ := HD5.out
    obtain ⟨k1, k2, k3, B2, k4, k5⟩ := HS5.out
    have HLD := Lib.hid (laid_any D (cm S S.length) A B n c C d B1 B2 m1 m2 m3 k1 hn (by rw [k1]; exact HL5.out) hup HU5.out w5 m4 k4 m5 k5)
    clear m1 m2 m3 m4 m5 k1 k2 k3 k4 k5
    go_wp2_with (go_at_call 44; refine HLD.out.mono ?_; rintro e w6 ⟨v6, rfl, hM6⟩)
    refine hK.out _ _ trivial (fun hHeld => ?_)
    clear hK K
    obtain ⟨A2, n2, c2, rfl, -⟩ := SlB.of_mk hM6
    have HB6 := Lib.hid (HB5.out.below hM6.2 hb5s)
    have d1 := HB6.out.c1
    have f1 := HB6.out.fr 1
    refine take_at 12 16 (.pointer (some ⟨b, 0, none⟩)) rfl (by rfl) (by kernel_rfl) (by kernel_rfl) (by kernel_rfl) (fun _ _ _ h => h) (Or.inl ⟨by rfl, fun w' hSw => by go_simp⟩) (by assumption) ?_
    simp only [List.setIfInBounds_toArray, List.set_cons_zero, List.set_cons_succ]
    refine take_at 13 17 (.pointer (some ⟨b, 0, none⟩)) rfl (by rfl) (by kernel_rfl) (by kernel_rfl) (by kernel_rfl) (fun _ _ _ h => h) (Or.inl ⟨by rfl, fun w' hSw => by go_simp⟩) (by assumption) ?_
    simp only [List.setIfInBounds_toArray, List.set_cons_zero, List.set_cons_succ]
    refine take_at 14 18 (.pointer (some ⟨b, 1, none⟩)) rfl (by rfl) (by kernel_rfl) (by kernel_rfl) (by kernel_rfl) (fun _ _ _ h => h) (Or.inl ⟨by rfl, fun w' hSw => by go_simp⟩) (by assumption) ?_
    simp only [List.setIfInBounds_toArray, List.set_cons_zero, List.set_cons_succ]
    refine wpAnyH_ready (rs := [15]) (by kernel_rfl) (by simp) ?_
    refine AllReadyH.cons rfl (fun K hK => ?_) AllReadyH.nil
    go_simp
    refine hK.out _ _ trivial (fun hHeld => ?_)
    clear hK K
    refine wpAnyH_done (by kernel_rfl) ?_ _
    have HB7 := Lib.hid (HB6.out.set1 (.slice A2 n2 c2))
    have d2 := HB7.out.c2
    have f2 := HB7.out.fr 2
    have HO := Lib.hid (show Own w.heap.size w6 (.slice A2 n2 c2) (app D (kpt kf W W.length)) from HE5.out ▸ (Own.of_mk hM6).down HW5.out.size)
    have HW6 := Lib.hid (HW5.out.trans (hM6.2.mono HW5.out.size))
    clear hM6 d1 f1 c1
    go_wp2
    go_end0
    exact ⟨rfl, A2, n2, c2, HB7.out.set2 _, (HO.out.far (p := ⟨b, 1, none⟩) hbl _).far (p := ⟨b, 2, none⟩) hbl _, ((HW6.out.mono (Nat.le_of_lt hbl)).setCell (p := ⟨b, 1, none⟩) (Nat.le_refl _) _).setCell (p := ⟨b, 2, none⟩) (Nat.le_refl _) _⟩
  · simp only [List.setIfInBounds_toArray, List.set_cons_zero, List.set_cons_succ]
    refine wpAnyH_ready (rs := [5, 10]) (by kernel_rfl) (by simp) ?_
    refine all_at 5 9 (.slice A n c) w.drew rfl (by rfl) (by rfl) (by go_simp) trivial (fun hHeld => ?_) (AllReadyH.cons rfl (fun K hK => ?_) AllReadyH.nil)
    · simp only [List.setIfInBounds_toArray, List.set_cons_zero, List.set_cons_succ]
      refine wpAnyH_ready (rs := [10]) (by kernel_rfl) (by simp) ?_
      refine AllReadyH.cons rfl (fun K hK => ?_) AllReadyH.nil
      go_simp
      go_wp2_with (go_at_call 53; refine HNW.out.mono ?_; rintro e w5 ⟨⟨B, C, d, S, rfl, hSl, hSn, hSs, hSm⟩, hb5⟩)
      refine hK.out _ _ trivial (fun hHeld => ?_)
      clear hK K
      have HB5 := Lib.hid (HB.out.below hb5 hbl)
      have c1 := HB5.out.c1
      have HD5 := Lib.hid (HD.out.below hb5)
      have HS5 := Lib.hid hSl
      have HE5 := Lib.hid (app_kept HWL.out hup hSs hSm)
      have HU5 := Lib.hid (cm_spec hSs S.length (Nat.le_refl _)).1
      have HL5 := Lib.hid (show (cm S S.length).length ≤ 1099511627776 from Nat.le_trans (cm_len S S.length) (Nat.le_trans hSn hm))
      have hb5s : b < w5.heap.size := Nat.lt_of_lt_of_le hbl hb5.size
      have HW5 := Lib.hid (hdr.trans hb5)
      clear hSl hSn hSs hSm hb5
      refine wpAnyH_ready (rs := [11]) (by kernel_rfl) (by simp) ?_
      refine AllReadyH.cons rfl (fun K hK => ?_) AllReadyH.nil
      go_simp
      obtain ⟨m1, m2, m3, B1, m4, m5⟩ := HD5.out
      obtain ⟨k1, k2, k3, B2, k4, k5⟩ := HS5.out
      have HLD := Lib.hid (laid_any D (cm S S.length) A B n c C d B1 B2 m1 m2 m3 k1 hn (by rw [k1]; exact HL5.out) hup HU5.out w5 m4 k4 m5 k5)
      clear m1 m2 m3 m4 m5 k1 k2 k3 k4 k5
      go_wp2_with (go_at_call 44; refine HLD.out.mono ?_; rintro e w6 ⟨v6, rfl, hM6⟩)
      refine hK.out _ _ trivial (fun hHeld => ?_)
      clear hK K
      obtain ⟨A2, n2, c2, rfl, -⟩ := SlB.of_mk hM6
      have HB6 := Lib.hid (HB5.out.below hM6.2 hb5s)
      have d1 := HB6.out.c1
      have f1 := HB6.out.fr 1
      refine take_at 12 16 (.pointer (some ⟨b, 0, none⟩)) rfl (by rfl) (by kernel_rfl) (by kernel_rfl) (by kernel_rfl) (fun _ _ _ h => h) (Or.inl ⟨by rfl, fun w' hSw => by go_simp⟩) (by assumption) ?_
      simp only [List.setIfInBounds_toArray, List.set_cons_zero, List.set_cons_succ]
      refine take_at 13 17 (.pointer (some ⟨b, 0, none⟩)) rfl (by rfl) (by kernel_rfl) (by kernel_rfl) (by kernel_rfl) (fun _ _ _ h => h) (Or.inl ⟨by rfl, fun w' hSw => by go_simp⟩) (by assumption) ?_
      simp only [List.setIfInBounds_toArray, List.set_cons_zero, List.set_cons_succ]
      refine take_at 14 18 (.pointer (some ⟨b, 1, none⟩)) rfl (by rfl) (by kernel_rfl) (by kernel_rfl) (by kernel_rfl) (fun _ _ _ h => h) (Or.inl ⟨by rfl, fun w' hSw => by go_simp⟩) (by assumption) ?_
      simp only [List.setIfInBounds_toArray, List.set_cons_zero, List.set_cons_succ]
      refine wpAnyH_ready (rs := [15]) (by kernel_rfl) (by simp) ?_
      refine AllReadyH.cons rfl (fun K hK => ?_) AllReadyH.nil
      go_simp
      refine hK.out _ _ trivial (fun hHeld => ?_)
      clear hK K
      refine wpAnyH_done (by kernel_rfl) ?_ _
      have HB7 := Lib.hid (HB6.out.set1 (.slice A2 n2 c2))
      have d2 := HB7.out.c2
      have f2 := HB7.out.fr 2
      have HO := Lib.hid (show Own w.heap.size w6 (.slice A2 n2 c2) (app D (kpt kf W W.length)) from HE5.out ▸ (Own.of_mk hM6).down HW5.out.size)
      have HW6 := Lib.hid (HW5.out.trans (hM6.2.mono HW5.out.size))
      clear hM6 d1 f1 c1
      go_wp2
      go_end0
      exact ⟨rfl, A2, n2, c2, HB7.out.set2 _, (HO.out.far (p := ⟨b, 1, none⟩) hbl _).far (p := ⟨b, 2, none⟩) hbl _, ((HW6.out.mono (Nat.le_of_lt hbl)).setCell (p := ⟨b, 1, none⟩) (Nat.le_refl _) _).setCell (p := ⟨b, 2, none⟩) (Nat.le_refl _) _⟩
    · go_simp
      go_wp2_with (go_at_call 53; refine HNW.out.mono ?_; rintro e w5 ⟨⟨B, C, d, S, rfl, hSl, hSn, hSs, hSm⟩, hb5⟩)
      refine hK.out _ _ trivial (fun hHeld => ?_)
      clear hK K
      have HB5 := Lib.hid (HB.out.below hb5 hbl)
      have c1 := HB5.out.c1
      have HD5 := Lib.hid (HD.out.below hb5)
      have HS5 := Lib.hid hSl
      have HE5 := Lib.hid (app_kept HWL.out hup hSs hSm)
      have HU5 := Lib.hid (cm_spec hSs S.length (Nat.le_refl _)).1
      have HL5 := Lib.hid (show (cm S S.length).length ≤ 1099511627776 from Nat.le_trans (cm_len S S.length) (Nat.le_trans hSn hm))
      have hb5s : b < w5.heap.size := Nat.lt_of_lt_of_le hbl hb5.size
      have HW5 := Lib.hid (hdr.trans hb5)
      clear hSl hSn hSs hSm hb5
      refine wpAnyH_ready (rs := [5]) (by kernel_rfl) (by simp) ?_
      refine all_at 5 9 (.slice A n c) w5 rfl (by rfl) (by rfl) (by go_simp) trivial (fun hHeld => ?_) all_nil
      simp only [List.setIfInBounds_toArray, List.set_cons_zero, List.set_cons_succ]
      refine wpAnyH_ready (rs := [11]) (by kernel_rfl) (by simp) ?_
      refine AllReadyH.cons rfl (fun K hK => ?_) AllReadyH.nil
      go_simp
      obtain ⟨m1, m2, m3, B1, m4, m5⟩ := HD5.out
      obtain ⟨k1, k2, k3, B2, k4, k5⟩ := HS5.out
      have HLD := Lib.hid (laid_any D (cm S S.length) A B n c C d B1 B2 m1 m2 m3 k1 hn (by rw [k1]; exact HL5.out) hup HU5.out w5 m4 k4 m5 k5)
      clear m1 m2 m3 m4 m5 k1 k2 k3 k4 k5
      go_wp2_with (go_at_call 44; refine HLD.out.mono ?_; rintro e w6 ⟨v6, rfl, hM6⟩)
      refine hK.out _ _ trivial (fun hHeld => ?_)
      clear hK K
      obtain ⟨A2, n2, c2, rfl, -⟩ := SlB.of_mk hM6
      have HB6 := Lib.hid (HB5.out.below hM6.2 hb5s)
      have d1 := HB6.out.c1
      have f1 := HB6.out.fr 1
      refine take_at 12 16 (.pointer (some ⟨b, 0, none⟩)) rfl (by rfl) (by kernel_rfl) (by kernel_rfl) (by kernel_rfl) (fun _ _ _ h => h) (Or.inl ⟨by rfl, fun w' hSw => by go_simp⟩) (by assumption) ?_
      simp only [List.setIfInBounds_toArray, List.set_cons_zero, List.set_cons_succ]
      refine take_at 13 17 (.pointer (some ⟨b, 0, none⟩)) rfl (by rfl) (by kernel_rfl) (by kernel_rfl) (by kernel_rfl) (fun _ _ _ h => h) (Or.inl ⟨by rfl, fun w' hSw => by go_simp⟩) (by assumption) ?_
      simp only [List.setIfInBounds_toArray, List.set_cons_zero, List.set_cons_succ]
      refine take_at 14 18 (.pointer (some ⟨b, 1, none⟩)) rfl (by rfl) (by kernel_rfl) (by kernel_rfl) (by kernel_rfl) (fun _ _ _ h => h) (Or.inl ⟨by rfl, fun w' hSw => by go_simp⟩) (by assumption) ?_
      simp only [List.setIfInBounds_toArray, List.set_cons_zero, List.set_cons_succ]
      refine wpAnyH_ready (rs := [15]) (by kernel_rfl) (by simp) ?_
      refine AllReadyH.cons rfl (fun K hK => ?_) AllReadyH.nil
      go_simp
      refine hK.out _ _ trivial (fun hHeld => ?_)
      clear hK K
      refine wpAnyH_done (by kernel_rfl) ?_ _
      have HB7 := Lib.hid (HB6.out.set1 (.slice A2 n2 c2))
      have d2 := HB7.out.c2
      have f2 := HB7.out.fr 2
      have HO := Lib.hid (show Own w.heap.size w6 (.slice A2 n2 c2) (app D (kpt kf W W.length)) from HE5.out ▸ (Own.of_mk hM6).down HW5.out.size)
      have HW6 := Lib.hid (HW5.out.trans (hM6.2.mono HW5.out.size))
      clear hM6 d1 f1 c1
      go_wp2
      go_end0
      exact ⟨rfl, A2, n2, c2, HB7.out.set2 _, (HO.out.far (p := ⟨b, 1, none⟩) hbl _).far (p := ⟨b, 2, none⟩) hbl _, ((HW6.out.mono (Nat.le_of_lt hbl)).setCell (p := ⟨b, 1, none⟩) (Nat.le_refl _) _).setCell (p := ⟨b, 2, none⟩) (Nat.le_refl _) _⟩
set_option maxRecDepth 100000 in
set_option maxHeartbeats 2000000 in
theorem settle_kept {w : World} {b N : Nat} (D W : List Bk) (A A' : Option Addr) (n c m c' : Nat) (dn : Bool) (fu : Int) (p : Addr) (h : Box w b N (.slice A n c) (.slice A' m c') dn fu) (hn : n ≤ 1099511627776) (hm : m ≤ 1099511627776) (hup : UpK key D) (hD : SlB w A n c D) (hW : SlB w A' m c' W) (kf : Nat → Bool)
    (hkp : ∀ (i : Nat) (W' : World), Below w.heap.size w W' → Calls Tryd.prog 42 #[.int .i64 i, .pointer (some p)] W' fun e w' => e = .returned (.bool (kf i)) ∧ W' = w') :
    Calls Tryd.prog 36 #[.pointer (some ⟨b, 0, none⟩), (.func (.func 42) #[] #[.pointer (some p)])] w fun e w' => e = .returned (.tuple #[]) ∧ ∃ A2 n2 c2, Box w' b N (.slice A2 n2 c2) (.slice none 0 0) dn fu ∧ Own w.heap.size w' (.slice A2 n2 c2) (app D (kpt kf W W.length)) ∧ Below b w w' := by
  have hbl : b < w.heap.size := World.block_lt_of_cell? w _ h.c0
  have hdr : Below w.heap.size w w.drew := (Below.refl _ _).drew
  have HNW := Lib.hid (newest_kept N D W A A' n c m c' dn fu p hm w.drew (hW.below hdr) kf (fun i W' hb => hkp i W' (hdr.trans hb)))
  have HB := Lib.hid (show Box w.drew b N (.slice A n c) (.slice A' m c') dn fu from h.below hdr hbl)
  have HD := Lib.hid (hD.below hdr)
  have HWL := Lib.hid hW.1
  clear hkp hD hW h
  have c1 := HB.out.c1
  unfold devV at HNW
  go_enter Tryd.func36, Tryd.ntmps36
  go_wp2_with fail
  refine wp_region_held_drew (S := fun _ => True) (by kernel_rfl) trivial (fun hHeld => ?_)
  refine take_at 0 4 (.pointer (some ⟨b, 0, none⟩)) rfl (by rfl) (by kernel_rfl) (by kernel_rfl) (by kernel_rfl) (fun _ _ _ h => h) (Or.inl ⟨by rfl, fun w' hSw => by go_simp⟩) (by assumption) ?_
  simp only [List.setIfInBounds_toArray, List.set_cons_zero, List.set_cons_succ]
  refine take_at 1 5 (.pointer (some ⟨b, 0, none⟩)) rfl (by rfl) (by kernel_rfl) (by kernel_rfl) (by kernel_rfl) (fun _ _ _ h => h) (Or.inl ⟨by rfl, fun w' hSw => by go_simp⟩) (by assumption) ?_
  simp only [List.setIfInBounds_toArray, List.set_cons_zero, List.set_cons_succ]
  refine take_at 2 6 (.pointer (some ⟨b, 0, none⟩)) rfl (by rfl) (by kernel_rfl) (by kernel_rfl) (by kernel_rfl) (fun _ _ _ h => h) (Or.inl ⟨by rfl, fun w' hSw => by go_simp⟩) (by assumption) ?_
  simp only [List.setIfInBounds_toArray, List.set_cons_zero, List.set_cons_succ]
  refine take_at 3 7 (.pointer (some ⟨b, 0, none⟩)) rfl (by rfl) (by kernel_rfl) (by kernel_rfl) (by kernel_rfl) (fun _ _ _ h => h) (Or.inl ⟨by rfl, fun w' hSw => by go_simp⟩) (by assumption) ?_
  simp only [List.setIfInBounds_toArray, List.set_cons_zero, List.set_cons_succ]
  refine take_at 4 8 (.pointer (some ⟨b, 1, none⟩)) rfl (by rfl) (by kernel_rfl) (by kernel_rfl) (by kernel_rfl) (fun _ _ _ h => h) (Or.inl ⟨by rfl, fun w' hSw => by go_simp⟩) (by assumption) ?_
  simp only [List.setIfInBounds_toArray, List.set_cons_zero, List.set_cons_succ]
  refine take_at 6 10 (.pointer (some ⟨b, 0, none⟩)) rfl (by rfl) (by kernel_rfl) (by kernel_rfl) (by kernel_rfl) (fun _ _ _ h => h) (Or.inl ⟨by rfl, fun w' hSw => by go_simp⟩) (by assumption) ?_
  simp only [List.setIfInBounds_toArray, List.set_cons_zero, List.set_cons_succ]
  refine take_at 7 11 (.pointer (some ⟨b, 0, none⟩)) rfl (by rfl) (by kernel_rfl) (by kernel_rfl) (by kernel_rfl) (fun _ _ _ h => h) (Or.inl ⟨by rfl, fun w' hSw => by go_simp⟩) (by assumption) ?_
  simp only [List.setIfInBounds_toArray, List.set_cons_zero, List.set_cons_succ]
  refine take_at 9 13 ((.func (.func 42) #[] #[.pointer (some p)])) rfl (by rfl) (by kernel_rfl) (by kernel_rfl) (by kernel_rfl) (fun _ _ _ h => h) (Or.inl ⟨by rfl, fun w' hSw => by go_simp⟩) (by assumption) ?_
  simp only [List.setIfInBounds_toArray, List.set_cons_zero, List.set_cons_succ]
  refine wpAnyH_ready (rs := [5, 8]) (by kernel_rfl) (by simp) ?_
  refine all_at 5 9 (.slice A n c) w.drew rfl (by rfl) (by rfl) (by go_simp) trivial (fun hHeld => ?_) (all_at 8 12 (.agg ([.int .u32 N, .slice A n c, .slice A' m c', .bool dn, .int .i64 fu] : List Value).toArray) w.drew rfl (by rfl) (by rfl) (load_run 57 (.tmp 11) rfl b 0 rfl [.int .u32 N, .slice A n c, .slice A' m c', .bool dn, .int .i64 fu] _ HB.out.range Tryd.underlying57 rfl (by kernel_rfl)) trivial (fun hHeld => ?_) all_nil)
  · simp only [List.setIfInBounds_toArray, List.set_cons_zero, List.set_cons_succ]
    refine wpAnyH_ready (rs := [8]) (by kernel_rfl) (by simp) ?_
    refine all_at 8 12 (.agg ([.int .u32 N, .slice A n c, .slice A' m c', .bool dn, .int .i64 fu] : List Value).toArray) w.drew rfl (by rfl) (by rfl) (load_run 57 (.tmp 11) rfl b 0 rfl [.int .u32 N, .slice A n c, .slice A' m c', .bool dn, .int .i64 fu] _ HB.out.range Tryd.underlying57 rfl (by kernel_rfl)) trivial (fun hHeld => ?_) all_nil
    simp only [List.setIfInBounds_toArray, List.set_cons_zero, List.set_cons_succ]
    refine wpAnyH_ready (rs := [10]) (by kernel_rfl) (by simp) ?_
    refine AllReadyH.cons rfl (fun K hK => ?_) AllReadyH.nil
    go_simp
    go_wp2_with (go_at_call 53; refine HNW.out.mono ?_; rintro e w5 ⟨⟨B, C, d, S, rfl, hSl, hSn, hSs, hSm⟩, hb5⟩)
    refine hK.out _ _ trivial (fun hHeld => ?_)
    clear hK K
    have HB5 := Lib.hid (HB.out.below hb5 hbl)
    have c1 := HB5.out.c1
    have HD5 := Lib.hid (HD.out.below hb5)
    have HS5 := Lib.hid hSl
    have HE5 := Lib.hid (app_kept HWL.out hup hSs hSm)
    have HU5 := Lib.hid (cm_spec hSs S.length (Nat.le_refl _)).1
    have HL5 := Lib.hid (show (cm S S.length).length ≤ 1099511627776 from Nat.le_trans (cm_len S S.length) (Nat.le_trans hSn hm))
    have hb5s : b < w5.heap.size := Nat.lt_of_lt_of_le hbl hb5.size
    have HW5 := Lib.hid (hdr.trans hb5)
    clear hSl hSn hSs hSm hb5
    refine wpAnyH_ready (rs := [11]) (by kernel_rfl) (by simp) ?_
    refine AllReadyH.cons rfl (fun K hK => ?_) AllReadyH.nil
    go_simp
    obtain ⟨m1, m2, m3, B1, m4, m5⟩ := HD5.out
    obtain ⟨k1, k2, k3, B2, k4, k5⟩ := HS5.out
    have HLD := Lib.hid (laid_any D (cm S S.length) A B n c C d B1 B2 m1 m2 m3 k1 hn (by rw [k1]; exact HL5.out) hup HU5.out w5 m4 k4 m5 k5)
    clear m1 m2 m3 m4 m5 k1 k2 k3 k4 k5
    go_wp2_with (go_at_call 44; refine HLD.out.mono ?_; rintro e w6 ⟨v6, rfl, hM6⟩)
    refine hK.out _ _ trivial (fun hHeld => ?_)
    clear hK K
    obtain ⟨A2, n2, c2, rfl, -⟩ := SlB.of_mk hM6
    have HB6 := Lib.hid (HB5.out.below hM6.2 hb5s)
    have d1 := HB6.out.c1
    have f1 := HB6.out.fr 1
    refine take_at 12 16 (.pointer (some ⟨b, 0, none⟩)) rfl (by rfl) (by kernel_rfl) (by kernel_rfl) (by kernel_rfl) (fun _ _ _ h => h) (Or.inl ⟨by rfl, fun w' hSw => by go_simp⟩) (by assumption) ?_
    simp only [List.setIfInBounds_toArray, List.set_cons_zero, List.set_cons_succ]
    refine take_at 13 17 (.pointer (some ⟨b, 0, none⟩)) rfl (by rfl) (by kernel_rfl) (by kernel_rfl) (by kernel_rfl) (fun _ _ _ h => h) (Or.inl ⟨by rfl, fun w' hSw => by go_simp⟩) (by assumption) ?_
    simp only [List.setIfInBounds_toArray, List.set_cons_zero, List.set_cons_succ]
    refine take_at 14 18 (.pointer (some ⟨b, 1, none⟩)) rfl (by rfl) (by kernel_rfl) (by kernel_rfl) (by kernel_rfl) (fun _ _ _ h => h) (Or.inl ⟨by rfl, fun w' hSw => by go_simp⟩) (by assumption) ?_
    simp only [List.setIfInBounds_toArray, List.set_cons_zero, List.set_cons_succ]
    refine wpAnyH_ready (rs := [15]) (by kernel_rfl) (by simp) ?_
    refine AllReadyH.cons rfl (fun K hK => ?_) AllReadyH.nil
    go_simp
    refine hK.out _ _ trivial (fun hHeld => ?_)
    clear hK K
    refine wpAnyH_done (by kernel_rfl) ?_ _
    have HB7 := Lib.hid (HB6.out.set1 (.slice A2 n2 c2))
    have d2 := HB7.out.c2
    have f2 := HB7.out.fr 2
    have HO := Lib.hid (show Own w.heap.size w6 (.slice A2 n2 c2) (app D (kpt kf W W.length)) from HE5.out ▸ (Own.of_mk hM6).down HW5.out.size)
    have HW6 := Lib.hid (HW5.out.trans (hM6.2.mono HW5.out.size))
    clear hM6 d1 f1 c1
    go_wp2
    go_end0
    exact ⟨rfl, A2, n2, c2, HB7.out.set2 _, (HO.out.far (p := ⟨b, 1, none⟩) hbl _).far (p := ⟨b, 2, none⟩) hbl _, ((HW6.out.mono (Nat.le_of_lt hbl)).setCell (p := ⟨b, 1, none⟩) (Nat.le_refl _) _).setCell (p := ⟨b, 2, none⟩) (Nat.le_refl _) _⟩
  · simp only [List.setIfInBounds_toArray, List.set_cons_zero, List.set_cons_succ]
    refine wpAnyH_ready (rs := [5, 10]) (by kernel_rfl) (by simp) ?_
    refine all_at 5 9 (.slice A n c) w.drew rfl (by rfl) (by rfl) (by go_simp) trivial (fun hHeld => ?_) (AllReadyH.cons rfl (fun K hK => ?_) AllReadyH.nil)
    · simp only [List.setIfInBounds_toArray, List.set_cons_zero, List.set_cons_succ]
      refine wpAnyH_ready (rs := [10]) (by kernel_rfl) (by simp) ?_
      refine AllReadyH.cons rfl (fun K hK => ?_) AllReadyH.nil
      go_simp
      go_wp2_with (go_at_call 53; refine HNW.out.mono ?_; rintro e w5 ⟨⟨B, C, d, S, rfl, hSl, hSn, hSs, hSm⟩, hb5⟩)
      refine hK.out _ _ trivial (fun hHeld => ?_)
      clear hK K
      have HB5 := Lib.hid (HB.out.below hb5 hbl)
      have c1 := HB5.out.c1
      have HD5 := Lib.hid (HD.out.below hb5)
      have HS5 := Lib.hid hSl
      have HE5 := Lib.hid (app_kept HWL.out hup hSs hSm)
      have HU5 := Lib.hid (cm_spec hSs S.length (Nat.le_refl _)).1
      have HL5 := Lib.hid (show (cm S S.length).length ≤ 1099511627776 from Nat.le_trans (cm_len S S.length) (Nat.le_trans hSn hm))
      have hb5s : b < w5.heap.size := Nat.lt_of_lt_of_le hbl hb5.size
      have HW5 := Lib.hid (hdr.trans hb5)
      clear hSl hSn hSs hSm hb5
      refine wpAnyH_ready (rs := [11]) (by kernel_rfl) (by simp) ?_
      refine AllReadyH.cons rfl (fun K hK => ?_) AllReadyH.nil
      go_simp
      obtain ⟨m1, m2, m3, B1, m4, m5⟩ := HD5.out
      obtain ⟨k1, k2, k3, B2, k4, k5⟩ := HS5.out
      have HLD := Lib.hid (laid_any D (cm S S.length) A B n c C d B1 B2 m1 m2 m3 k1 hn (by rw [k1]; exact HL5.out) hup HU5.out w5 m4 k4 m5 k5)
      clear m1 m2 m3 m4 m5 k1 k2 k3 k4 k5
      go_wp2_with (go_at_call 44; refine HLD.out.mono ?_; rintro e w6 ⟨v6, rfl, hM6⟩)
      refine hK.out _ _ trivial (fun hHeld => ?_)
      clear hK K
      obtain ⟨A2, n2, c2, rfl, -⟩ := SlB.of_mk hM6
      have HB6 := Lib.hid (HB5.out.below hM6.2 hb5s)
      have d1 := HB6.out.c1
      have f1 := HB6.out.fr 1
      refine take_at 12 16 (.pointer (some ⟨b, 0, none⟩)) rfl (by rfl) (by kernel_rfl) (by kernel_rfl) (by kernel_rfl) (fun _ _ _ h => h) (Or.inl ⟨by rfl, fun w' hSw => by go_simp⟩) (by assumption) ?_
      simp only [List.setIfInBounds_toArray, List.set_cons_zero, List.set_cons_succ]
      refine take_at 13 17 (.pointer (some ⟨b, 0, none⟩)) rfl (by rfl) (by kernel_rfl) (by kernel_rfl) (by kernel_rfl) (fun _ _ _ h => h) (Or.inl ⟨by rfl, fun w' hSw => by go_simp⟩) (by assumption) ?_
      simp only [List.setIfInBounds_toArray, List.set_cons_zero, List.set_cons_succ]
      refine take_at 14 18 (.pointer (some ⟨b, 1, none⟩)) rfl (by rfl) (by kernel_rfl) (by kernel_rfl) (by kernel_rfl) (fun _ _ _ h => h) (Or.inl ⟨by rfl, fun w' hSw => by go_simp⟩) (by assumption) ?_
      simp only [List.setIfInBounds_toArray, List.set_cons_zero, List.set_cons_succ]
      refine wpAnyH_ready (rs := [15]) (by kernel_rfl) (by simp) ?_
      refine AllReadyH.cons rfl (fun K hK => ?_) AllReadyH.nil
      go_simp
      refine hK.out _ _ trivial (fun hHeld => ?_)
      clear hK K
      refine wpAnyH_done (by kernel_rfl) ?_ _
      have HB7 := Lib.hid (HB6.out.set1 (.slice A2 n2 c2))
      have d2 := HB7.out.c2
      have f2 := HB7.out.fr 2
      have HO := Lib.hid (show Own w.heap.size w6 (.slice A2 n2 c2) (app D (kpt kf W W.length)) from HE5.out ▸ (Own.of_mk hM6).down HW5.out.size)
      have HW6 := Lib.hid (HW5.out.trans (hM6.2.mono HW5.out.size))
      clear hM6 d1 f1 c1
      go_wp2
      go_end0
      exact ⟨rfl, A2, n2, c2, HB7.out.set2 _, (HO.out.far (p := ⟨b, 1, none⟩) hbl _).far (p := ⟨b, 2, none⟩) hbl _, ((HW6.out.mono (Nat.le_of_lt hbl)).setCell (p := ⟨b, 1, none⟩) (Nat.le_refl _) _).setCell (p := ⟨b, 2, none⟩) (Nat.le_refl _) _⟩
    · go_simp
      go_wp2_with (go_at_call 53; refine HNW.out.mono ?_; rintro e w5 ⟨⟨B, C, d, S, rfl, hSl, hSn, hSs, hSm⟩, hb5⟩)
      refine hK.out _ _ trivial (fun hHeld => ?_)
      clear hK K
      have HB5 := Lib.hid (HB.out.below hb5 hbl)
      have c1 := HB5.out.c1
      have HD5 := Lib.hid (HD.out.below hb5)
      have HS5 := Lib.hid hSl
      have HE5 := Lib.hid (app_kept HWL.out hup hSs hSm)
      have HU5 := Lib.hid (cm_spec hSs S.length (Nat.le_refl _)).1
      have HL5 := Lib.hid (show (cm S S.length).length ≤ 1099511627776 from Nat.le_trans (cm_len S S.length) (Nat.le_trans hSn hm))
      have hb5s : b < w5.heap.size := Nat.lt_of_lt_of_le hbl hb5.size
      have HW5 := Lib.hid (hdr.trans hb5)
      clear hSl hSn hSs hSm hb5
      refine wpAnyH_ready (rs := [5]) (by kernel_rfl) (by simp) ?_
      refine all_at 5 9 (.slice A n c) w5 rfl (by rfl) (by rfl) (by go_simp) trivial (fun hHeld => ?_) all_nil
      simp only [List.setIfInBounds_toArray, List.set_cons_zero, List.set_cons_succ]
      refine wpAnyH_ready (rs := [11]) (by kernel_rfl) (by simp) ?_
      refine AllReadyH.cons rfl (fun K hK => ?_) AllReadyH.nil
      go_simp
      obtain ⟨m1, m2, m3, B1, m4, m5⟩ := HD5.out
      obtain ⟨k1, k2, k3, B2, k4, k5⟩ := HS5.out
      have HLD := Lib.hid (laid_any D (cm S S.length) A B n c C d B1 B2 m1 m2 m3 k1 hn (by rw [k1]; exact HL5.out) hup HU5.out w5 m4 k4 m5 k5)
      clear m1 m2 m3 m4 m5 k1 k2 k3 k4 k5
      go_wp2_with (go_at_call 44; refine HLD.out.mono ?_; rintro e w6 ⟨v6, rfl, hM6⟩)
      refine hK.out _ _ trivial (fun hHeld => ?_)
      clear hK K
      obtain ⟨A2, n2, c2, rfl, -⟩ := SlB.of_mk hM6
      have HB6 := Lib.hid (HB5.out.below hM6.2 hb5s)
      have d1 := HB6.out.c1
      have f1 := HB6.out.fr 1
      refine take_at 12 16 (.pointer (some ⟨b, 0, none⟩)) rfl (by rfl) (by kernel_rfl) (by kernel_rfl) (by kernel_rfl) (fun _ _ _ h => h) (Or.inl ⟨by rfl, fun w' hSw => by go_simp⟩) (by assumption) ?_
      simp only [List.setIfInBounds_toArray, List.set_cons_zero, List.set_cons_succ]
      refine take_at 13 17 (.pointer (some ⟨b, 0, none⟩)) rfl (by rfl) (by kernel_rfl) (by kernel_rfl) (by kernel_rfl) (fun _ _ _ h => h) (Or.inl ⟨by rfl, fun w' hSw => by go_simp⟩) (by assumption) ?_
      simp only [List.setIfInBounds_toArray, List.set_cons_zero, List.set_cons_succ]
      refine take_at 14 18 (.pointer (some ⟨b, 1, none⟩)) rfl (by rfl) (by kernel_rfl) (by kernel_rfl) (by kernel_rfl) (fun _ _ _ h => h) (Or.inl ⟨by rfl, fun w' hSw => by go_simp⟩) (by assumption) ?_
      simp only [List.setIfInBounds_toArray, List.set_cons_zero, List.set_cons_succ]
      refine wpAnyH_ready (rs := [15]) (by kernel_rfl) (by simp) ?_
      refine AllReadyH.cons rfl (fun K hK => ?_) AllReadyH.nil
      go_simp
      refine hK.out _ _ trivial (fun hHeld => ?_)
      clear hK K
      refine wpAnyH_done (by kernel_rfl) ?_ _
      have HB7 := Lib.hid (HB6.out.set1 (.slice A2 n2 c2))
      have d2 := HB7.out.c2
      have f2 := HB7.out.fr 2
      have HO := Lib.hid (show Own w.heap.size w6 (.slice A2 n2 c2) (app D (kpt kf W W.length)) from HE5.out ▸ (Own.of_mk hM6).down HW5.out.size)
      have HW6 := Lib.hid (HW5.out.trans (hM6.2.mono HW5.out.size))
      clear hM6 d1 f1 c1
      go_wp2
      go_end0
      exact ⟨rfl, A2, n2, c2, HB7.out.set2 _, (HO.out.far (p := ⟨b, 1, none⟩) hbl _).far (p := ⟨b, 2, none⟩) hbl _, ((HW6.out.mono (Nat.le_of_lt hbl)).setCell (p := ⟨b, 1, none⟩) (Nat.le_refl _) _).setCell (p := ⟨b, 2, none⟩) (Nat.le_refl _) _⟩
end Go.Proofs.YtjkapmghifglcaaDoor.Dv
