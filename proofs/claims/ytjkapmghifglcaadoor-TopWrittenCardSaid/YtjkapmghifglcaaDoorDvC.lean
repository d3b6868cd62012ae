/- Contracts of package dev's right and Check; of package slices' BinarySearchFunc at blocks. -/
import Derived.Test.YtjkapmghifglcaaDoorDvB
import Derived.Test.YtjkapmghifglcaaDoorBkF
namespace Go.Proofs.YtjkapmghifglcaaDoor.Dv
set_option linter.unusedVariables false
open Go.ChangeShapes Go.WideShapes Go.ChangeAt Go.RowKit
open Ar Rg St
open BigFrame
/-- D is what a slice has -/
def SlB (w : World) (A : Option Addr) (n c : Nat) (D : List Bk) : Prop := n = D.length ∧ n ≤ c ∧ c ≤ maxLen ∧ ∃ B, B ≤ w.heap.size ∧ Ls enc 2 w B A D
theorem SlB.below {w w' : World} {A : Option Addr} {n c : Nat} {D : List Bk} (h : SlB w A n c D) (hb : Below w.heap.size w w') : SlB w' A n c D := by
  obtain ⟨h1, h2, h3, B, hB, hL⟩ := h
  exact ⟨h1, h2, h3, B, Nat.le_trans hB hb.size, hL.below (hb.mono hB)⟩
/-- a right device's size and lists -/
def rtD (N : Nat) (D W : List Bk) : Bool := decide (16 ≤ N) && (decide (N ≤ 65536) && (med N D && wts N W))
set_option maxRecDepth 100000 in
set_option maxHeartbeats 1000000 in
theorem right_any (N : Nat) (D W : List Bk) (A A' : Option Addr) (n c m c' : Nat) (dn : Bool) (fu : Int) (hn : n ≤ 281474976710656) (hm : m ≤ 281474976710656) (w : World) (hD : SlB w A n c D) (hW : SlB w A' m c' W) :
    Calls Tryd.prog 33 #[.agg #[.int .u32 N, .slice A n c, .slice A' m c', .bool dn, .int .i64 fu]] w fun e w' => e = .returned (.bool (rtD N D W)) ∧ Below w.heap.size w w' := by
  have HB := Lib.hid (show Below w.heap.size w (w.alloc (.cells #[.int .u32 N, .slice A n c, .slice A' m c', .bool dn, .int .i64 fu] 25)) from (Below.refl _ _).alloc (Nat.le_refl _) _)
  have hd0 : (w.alloc (.cells #[.int .u32 N, .slice A n c, .slice A' m c', .bool dn, .int .i64 fu] 25)).cell? ⟨w.heap.size, 0, none⟩ = some (.int .u32 N) := by simp
  have hd2 : (w.alloc (.cells #[.int .u32 N, .slice A n c, .slice A' m c', .bool dn, .int .i64 fu] 25)).cell? ⟨w.heap.size, 2, none⟩ = some (.slice A' m c') := by simp
  have hsz : w.heap.size < (w.alloc (.cells #[.int .u32 N, .slice A n c, .slice A' m c', .bool dn, .int .i64 fu] 25)).heap.size := by simp
  have HD := Lib.hid (hD.below HB.out)
  have HW := Lib.hid (hW.below HB.out)
  clear hD hW
  by_cases h1 : 16 ≤ N
  · have q1 : decide ((16 : Int) ≤ (N : Int)) = true := by rw [decide_eq_true_iff]; omega
    by_cases h2 : N ≤ 65536
    · have q2 : decide ((N : Int) ≤ 65536) = true := by rw [decide_eq_true_iff]; omega
      have HF := Lib.hid (show rtD N D W = (med N D && wts N W) by unfold rtD; rw [decide_eq_true h1, decide_eq_true h2]; rfl)
      obtain ⟨q, hq⟩ : ∃ q, med N D = q := ⟨_, rfl⟩
      rw [hq] at HF
      have HQ := Lib.hid hq
      rw [HF.out]
      clear h1 h2 hq
      go_enter Tryd.func33, Tryd.ntmps33
      go_wp2_with fail
      generalize w.alloc _ = W0 at *
      go_at_call 51
      obtain ⟨a1, a2, a3, B, a4, a5⟩ := HD.out
      refine (rightMedium_any D N A n c B a1 hn W0 a4 a5).mono ?_
      clear a1 a2 a3 a4 a5
      rw [HQ.out]
      rintro e w1 ⟨rfl, hb1⟩
      have hf0 : w1.cell? ⟨w.heap.size, 0, none⟩ = some (.int .u32 N) := (hb1.cell (p := ⟨w.heap.size, 0, none⟩) hsz).trans hd0
      have hf2 : w1.cell? ⟨w.heap.size, 2, none⟩ = some (.slice A' m c') := (hb1.cell (p := ⟨w.heap.size, 2, none⟩) hsz).trans hd2
      have HB1 := Lib.hid (HB.out.trans (hb1.mono HB.out.size))
      have HW1 := Lib.hid (HW.out.below hb1)
      clear hb1
      cases q
      · go_wp2
        go_ret
        exact ⟨rfl, HB1.out⟩
      · go_wp2_with fail
        go_at_call 52
        obtain ⟨a1, a2, a3, B, a4, a5⟩ := HW1.out
        refine (rightWaits_any W N A' m c' B a1 hm w1 a4 a5).mono ?_
        clear a1 a2 a3 a4 a5
        rintro e w2 ⟨rfl, hb2⟩
        have HB2 := Lib.hid (HB1.out.trans (hb2.mono HB1.out.size))
        clear hb2
        go_wp2
        go_ret
        exact ⟨by rw [Bool.true_and]; rfl, HB2.out⟩
    · have q2 : decide ((N : Int) ≤ 65536) = false := by rw [decide_eq_false_iff_not]; omega
      have HF := Lib.hid (show rtD N D W = false by unfold rtD; rw [decide_eq_false h2, Bool.false_and, Bool.and_false])
      rw [HF.out]
      clear h1 h2
      go_enter Tryd.func33, Tryd.ntmps33
      go_wp2
      go_ret
      exact ⟨rfl, HB.out⟩
  · have q1 : decide ((16 : Int) ≤ (N : Int)) = false := by rw [decide_eq_false_iff_not]; omega
    have HF := Lib.hid (show rtD N D W = false by unfold rtD; rw [decide_eq_false h1, Bool.false_and])
    rw [HF.out]
    clear h1
    go_enter Tryd.func33, Tryd.ntmps33
    go_wp2
    go_ret
    exact ⟨rfl, HB.out⟩
theorem srt_up {D : List Bk} (h : UpK key D) : Srt key lt D := List.Pairwise.imp (fun hab => O.asymm _ _ hab) h
theorem cmp_at (x y : Bk) (c : Int) (hc : Sb.cf x y = c) (w : World) :
    Calls Tryd.prog 56 #[.agg (enc x).toArray, .agg (enc y).toArray] w fun e w' => e = .returned (.int .i64 c) ∧ Below w.heap.size w w' := by
  subst hc
  exact (Sb.cmp_any x y w).mono fun e w' h => ⟨h.1, ⟨h.2.os, h.2.tape, h.2.output, h.2.size, fun k hk => h.2.block k hk (by intro e; cases e)⟩⟩
theorem cf_lt (x : Bk) (t : Bk) : Sb.cf x t < 0 ↔ lt (key x) t.n = true := Sb.cn_lt _ _
theorem cf_eq (x : Bk) (t : Bk) : Sb.cf x t = 0 ↔ key x = t.n := Sb.cn_eq _ _
set_option maxRecDepth 100000 in
set_option maxHeartbeats 4000000 in
theorem search_any (D : List Bk) (t : Bk) (A : Option Addr) (n cap B : Nat) (hn : n = D.length) (hm : n ≤ 281474976710656) (hs : Srt key lt D) (w : World) (hB : B ≤ w.heap.size) (hD : Ls enc 2 w B A D) :
    Calls Tryd.prog 55 #[.slice A n cap, .agg #[.int .u32 t.n, .string t.d], .func (.func 56) #[] #[]] w fun e w' => ∃ p : Nat, At D t.n p ∧ e = .returned (.tuple #[.int .i64 p, .bool (found D t.n p)]) ∧ Below w.heap.size w w' := by
  have HN := Lib.hid hn
  have HS := Lib.hid hs
  have HT := Lib.hid (show (w.alloc (.cells #[.int .u32 t.n, .string t.d] 41)).rangeAt w.heap.size 0 (enc t) from fun j v hv => by
    rw [Nat.zero_add, cell_of_row _ _ _ #[.int .u32 t.n, .string t.d] 41 (0, 0) (heap_alloc_new w _)]
    have : (enc t)[j]? = some v := hv
    simpa [Sb.enc] using this)
  have HW := Lib.hid (show Below w.heap.size w (w.alloc (.cells #[.int .u32 t.n, .string t.d] 41)) from (Below.refl _ _).alloc (Nat.le_refl _) _)
  have hsz : w.heap.size < (w.alloc (.cells #[.int .u32 t.n, .string t.d] 41)).heap.size := by simp
  have HD := Lib.hid (hD.below (HW.out.mono hB))
  have hB0 : B ≤ (w.alloc (.cells #[.int .u32 t.n, .string t.d] 41)).heap.size := by omega
  clear hn hD hs
  go_enter Tryd.func55, Tryd.ntmps55
  go_wp2_with fail
  generalize w.alloc _ = W0 at *
  go_loopw [9, 10] (fun v u wr => ∃ lo hi : Nat, v = .int .i64 lo ∧ u = .int .i64 hi ∧ Hid (Sb.Bs (GI D t.n) 0 n lo hi) ∧ Hid (Below W0.heap.size W0 wr)) (fun v u _ => (intOf u).toNat - (intOf v).toNat)
  case atStart => exact ⟨0, n, by go_num, by go_num, Sb.Bs.start _ (Nat.zero_le _), Below.refl _ _⟩
  case round =>
    obtain ⟨lo, hi, rfl, rfl, hbs, hbel⟩ := hrel
    obtain ⟨_, n2, n3, _⟩ := Hid.out hbs
    have hL := HD.out.below ((Hid.out hbel).mono hB0)
    have HTw := Lib.hid (show wr.rangeAt w.heap.size 0 (enc t) from fun j v hv => ((Hid.out hbel).cell (p := ⟨w.heap.size, 0 + j, none⟩) hsz).trans (HT.out j v hv))
    have hwr := Nat.lt_of_lt_of_le hsz (Hid.out hbel).size
    by_cases hlt : lo < hi
    · obtain ⟨h, hh⟩ : ∃ h : Nat, ((lo : Int) + (hi : Int)) / 2 = (h : Int) := ⟨(lo + hi) / 2, by omega⟩
      have n4 : lo ≤ h := by omega
      have n5 : h < hi := by omega
      have n6 : (0 : Int) ≤ (h : Int) := by omega
      have n7 : (h : Int) < (n : Int) := by omega
      obtain ⟨z, hz⟩ : ∃ z, D[h]? = some z := ⟨_, List.getElem?_eq_getElem (by rw [← HN.out]; omega)⟩
      obtain ⟨b, o, hAe, hb, hr⟩ := hL h z hz
      have hbl : b < wr.heap.size := Nat.lt_of_lt_of_le hb (Nat.le_trans hB0 (Hid.out hbel).size)
      have HZ := Lib.hid hr
      clear hL hr
      subst hAe
      obtain ⟨c, hcf⟩ : ∃ c, Sb.cf z t = c := ⟨_, rfl⟩
      have hcl := cf_lt z t
      rw [hcf] at hcl
      have HCF := Lib.hid hcf
      by_cases hlk : lt (key z) t.n = true
      · have hc : c < 0 := hcl.2 hlk
        have HUP := Lib.hid ((Hid.out hbs).up n4 n5 (by rw [GI_at hz, hlk]; rfl))
        clear hcl hcf hbs hz hlk
        go_wp2_with fail
        refine wp_region_held_drew (S := fun w' => Below wr.heap.size wr w') (by kernel_rfl) (Below.refl _ _).drew (fun hHeld => ?_)
        refine take_at 0 24 (.func (.func 56) #[] #[]) rfl (by rfl) (by kernel_rfl) (by kernel_rfl) (by kernel_rfl) (fun _ _ _ h => h) (Or.inl ⟨by rfl, fun w' hSw => by go_simp⟩) (by assumption) ?_
        simp only [List.setIfInBounds_toArray, List.set_cons_zero, List.set_cons_succ]
        refine take_at 1 25 (Value.slice (some ⟨b, o, none⟩) n cap) rfl (by rfl) (by kernel_rfl) (by kernel_rfl) (by kernel_rfl) (fun _ _ _ h => h) (Or.inl ⟨by rfl, fun w' hSw => by go_simp⟩) (by assumption) ?_
        simp only [List.setIfInBounds_toArray, List.set_cons_zero, List.set_cons_succ]
        refine take_at 2 26 (.int .i64 h) rfl (by rfl) (by kernel_rfl) (by kernel_rfl) (by kernel_rfl) (fun _ _ _ h => h) (Or.inl ⟨by rfl, fun w' hSw => by go_simp⟩) (by assumption) ?_
        simp only [List.setIfInBounds_toArray, List.set_cons_zero, List.set_cons_succ]
        refine take_at 3 27 (.pointer (some ⟨b, o + h * 2, none⟩)) rfl (by rfl) (by kernel_rfl) (by kernel_rfl) (by kernel_rfl) (fun _ _ _ h => h) (Or.inl ⟨by rfl, fun w' hSw => by go_simp⟩) (by assumption) ?_
        simp only [List.setIfInBounds_toArray, List.set_cons_zero, List.set_cons_succ]
        refine take_at 4 28 (.agg (enc z).toArray) rfl (by rfl) (by kernel_rfl) (by kernel_rfl) (by kernel_rfl) (fun _ _ _ h => h) (yieldsIf_load_mid (by rfl) _ _ rfl _ _ rfl (enc z) _ (fun w' hSw => fun j v hv => (hSw.cell (p := ⟨b, o + h * 2 + j, none⟩) hbl).trans (HZ.out j v hv)) Tryd.underlying41 rfl (by rw [Sb.enc_len]; exact Sb.infoE)) (by assumption) ?_
        simp only [List.setIfInBounds_toArray, List.set_cons_zero, List.set_cons_succ]
        refine take_at 5 29 (.agg (enc t).toArray) rfl (by rfl) (by kernel_rfl) (by kernel_rfl) (by kernel_rfl) (fun _ _ _ h => h) (yieldsIf_load_mid (by rfl) _ _ rfl _ _ rfl (enc t) _ (fun w' hSw => fun j v hv => (hSw.cell (p := ⟨w.heap.size, 0 + j, none⟩) hwr).trans (HTw.out j v hv)) Tryd.underlying41 rfl (by rw [Sb.enc_len]; exact Sb.infoE)) (by assumption) ?_
        simp only [List.setIfInBounds_toArray, List.set_cons_zero, List.set_cons_succ]
        refine wpAnyH_ready (rs := [6]) (by kernel_rfl) (by simp) ?_
        refine AllReadyH.cons rfl (fun K hK => ?_) AllReadyH.nil
        go_simp
        go_wp2_with (go_at_call 56; refine (cmp_at z t c HCF.out _).mono ?_; rintro e w5 ⟨rfl, hg5⟩)
        refine hK.out _ _ (hHeld.trans (hg5.mono hHeld.size)) (fun hHeld => ?_)
        clear hK K
        refine take_at 7 31 (.bool true) rfl (by rfl) (by kernel_rfl) (by kernel_rfl) (by kernel_rfl) (fun _ _ _ h => h) (Or.inl ⟨by rfl, fun w' hSw => by go_simp⟩) (by assumption) ?_
        simp only [List.setIfInBounds_toArray, List.set_cons_zero, List.set_cons_succ]
        refine wpAnyH_done (by kernel_rfl) ?_ _
        have HB1 := Lib.hid ((Hid.out hbel).trans (hHeld.mono (Hid.out hbel).size))
        clear hHeld hbel
        go_wp2
        exact ⟨⟨h + 1, hi, by go_num, rfl, HUP.out, HB1.out⟩, by simp [intOf] <;> omega⟩
      · have hc : 0 ≤ c := by
          have : ¬ c < 0 := fun e => hlk (hcl.1 e)
          omega
        have HDN := Lib.hid ((Hid.out hbs).down n4 n5 (by rw [GI_at hz]; simp only [hlk]; rfl))
        clear hcl hcf hbs hz hlk
        go_wp2_with fail
        refine wp_region_held_drew (S := fun w' => Below wr.heap.size wr w') (by kernel_rfl) (Below.refl _ _).drew (fun hHeld => ?_)
        refine take_at 0 24 (.func (.func 56) #[] #[]) rfl (by rfl) (by kernel_rfl) (by kernel_rfl) (by kernel_rfl) (fun _ _ _ h => h) (Or.inl ⟨by rfl, fun w' hSw => by go_simp⟩) (by assumption) ?_
        simp only [List.setIfInBounds_toArray, List.set_cons_zero, List.set_cons_succ]
        refine take_at 1 25 (Value.slice (some ⟨b, o, none⟩) n cap) rfl (by rfl) (by kernel_rfl) (by kernel_rfl) (by kernel_rfl) (fun _ _ _ h => h) (Or.inl ⟨by rfl, fun w' hSw => by go_simp⟩) (by assumption) ?_
        simp only [List.setIfInBounds_toArray, List.set_cons_zero, List.set_cons_succ]
        refine take_at 2 26 (.int .i64 h) rfl (by rfl) (by kernel_rfl) (by kernel_rfl) (by kernel_rfl) (fun _ _ _ h => h) (Or.inl ⟨by rfl, fun w' hSw => by go_simp⟩) (by assumption) ?_
        simp only [List.setIfInBounds_toArray, List.set_cons_zero, List.set_cons_succ]
        refine take_at 3 27 (.pointer (some ⟨b, o + h * 2, none⟩)) rfl (by rfl) (by kernel_rfl) (by kernel_rfl) (by kernel_rfl) (fun _ _ _ h => h) (Or.inl ⟨by rfl, fun w' hSw => by go_simp⟩) (by assumption) ?_
        simp only [List.setIfInBounds_toArray, List.set_cons_zero, List.set_cons_succ]
        refine take_at 4 28 (.agg (enc z).toArray) rfl (by rfl) (by kernel_rfl) (by kernel_rfl) (by kernel_rfl) (fun _ _ _ h => h) (yieldsIf_load_mid (by rfl) _ _ rfl _ _ rfl (enc z) _ (fun w' hSw => fun j v hv => (hSw.cell (p := ⟨b, o + h * 2 + j, none⟩) hbl).trans (HZ.out j v hv)) Tryd.underlying41 rfl (by rw [Sb.enc_len]; exact Sb.infoE)) (by assumption) ?_
        simp only [List.setIfInBounds_toArray, List.set_cons_zero, List.set_cons_succ]
        refine take_at 5 29 (.agg (enc t).toArray) rfl (by rfl) (by kernel_rfl) (by kernel_rfl) (by kernel_rfl) (fun _ _ _ h => h) (yieldsIf_load_mid (by rfl) _ _ rfl _ _ rfl (enc t) _ (fun w' hSw => fun j v hv => (hSw.cell (p := ⟨w.heap.size, 0 + j, none⟩) hwr).trans (HTw.out j v hv)) Tryd.underlying41 rfl (by rw [Sb.enc_len]; exact Sb.infoE)) (by assumption) ?_
        simp only [List.setIfInBounds_toArray, List.set_cons_zero, List.set_cons_succ]
        refine wpAnyH_ready (rs := [6]) (by kernel_rfl) (by simp) ?_
        refine AllReadyH.cons rfl (fun K hK => ?_) AllReadyH.nil
        go_simp
        go_wp2_with (go_at_call 56; refine (cmp_at z t c HCF.out _).mono ?_; rintro e w5 ⟨rfl, hg5⟩)
        refine hK.out _ _ (hHeld.trans (hg5.mono hHeld.size)) (fun hHeld => ?_)
        clear hK K
        refine take_at 7 31 (.bool false) rfl (by rfl) (by kernel_rfl) (by kernel_rfl) (by kernel_rfl) (fun _ _ _ h => h) (Or.inl ⟨by rfl, fun w' hSw => by go_simp⟩) (by assumption) ?_
        simp only [List.setIfInBounds_toArray, List.set_cons_zero, List.set_cons_succ]
        refine wpAnyH_done (by kernel_rfl) ?_ _
        have HB1 := Lib.hid ((Hid.out hbel).trans (hHeld.mono (Hid.out hbel).size))
        clear hHeld hbel
        go_wp2
        exact ⟨⟨lo, h, rfl, rfl, HDN.out, HB1.out⟩, by simp [intOf] <;> omega⟩
    · obtain rfl : lo = hi := by omega
      have HAT := Lib.hid (at_of HS.out (by have := Hid.out hbs; rw [HN.out] at this; exact this))
      clear hbs
      by_cases hp : lo < n
      · have q1 : decide ((lo : Int) < (n : Int)) = true := by rw [decide_eq_true_iff]; omega
        have n6 : (0 : Int) ≤ (lo : Int) := by omega
        have n7 : (lo : Int) < (n : Int) := by omega
        obtain ⟨z, hz⟩ : ∃ z, D[lo]? = some z := ⟨_, List.getElem?_eq_getElem (by rw [← HN.out]; omega)⟩
        obtain ⟨b, o, hAe, hb, hr⟩ := hL lo z hz
        have hbl : b < wr.heap.size := Nat.lt_of_lt_of_le hb (Nat.le_trans hB0 (Hid.out hbel).size)
        have HZ := Lib.hid hr
        clear hL hr
        subst hAe
        obtain ⟨c, hcf⟩ : ∃ c, Sb.cf z t = c := ⟨_, rfl⟩
        have hce := cf_eq z t
        rw [hcf] at hce
        have HF := Lib.hid (show found D t.n lo = (c == 0) by rw [found_at hz, Bool.eq_iff_iff]; simp [hce])
        have HCF := Lib.hid hcf
        clear hcf hce hz
        go_wp2_with fail
        refine wp_region_held_drew (S := fun w' => Below wr.heap.size wr w') (by kernel_rfl) (Below.refl _ _).drew (fun hHeld => ?_)
        refine take_at 0 35 (.int .i64 lo) rfl (by rfl) (by kernel_rfl) (by kernel_rfl) (by kernel_rfl) (fun _ _ _ h => h) (Or.inl ⟨by rfl, fun w' hSw => by go_simp⟩) (by assumption) ?_
        simp only [List.setIfInBounds_toArray, List.set_cons_zero, List.set_cons_succ]
        refine take_at 1 36 (.int .i64 lo) rfl (by rfl) (by kernel_rfl) (by kernel_rfl) (by kernel_rfl) (fun _ _ _ h => h) (Or.inl ⟨by rfl, fun w' hSw => by go_simp⟩) (by assumption) ?_
        simp only [List.setIfInBounds_toArray, List.set_cons_zero, List.set_cons_succ]
        refine take_at 2 37 (.int .i64 n) rfl (by rfl) (by kernel_rfl) (by kernel_rfl) (by kernel_rfl) (fun _ _ _ h => h) (Or.inl ⟨by rfl, fun w' hSw => by go_simp⟩) (by assumption) ?_
        simp only [List.setIfInBounds_toArray, List.set_cons_zero, List.set_cons_succ]
        refine take_at 3 38 (.bool true) rfl (by rfl) (by kernel_rfl) (by kernel_rfl) (by kernel_rfl) (fun _ _ _ h => h) (Or.inl ⟨by rfl, fun w' hSw => by go_simp⟩) (by assumption) ?_
        simp only [List.setIfInBounds_toArray, List.set_cons_zero, List.set_cons_succ]
        refine take_at 4 39 (.bool true) rfl (by rfl) (by kernel_rfl) (by kernel_rfl) (by kernel_rfl) (fun _ _ _ h => h) (Or.inl ⟨by rfl, fun w' hSw => by go_simp⟩) (by assumption) ?_
        simp only [List.setIfInBounds_toArray, List.set_cons_zero, List.set_cons_succ]
        refine take_at 5 40 (.func (.func 56) #[] #[]) rfl (by rfl) (by kernel_rfl) (by kernel_rfl) (by kernel_rfl) (fun _ _ _ h => h) (Or.inl ⟨by rfl, fun w' hSw => by go_simp⟩) (by assumption) ?_
        simp only [List.setIfInBounds_toArray, List.set_cons_zero, List.set_cons_succ]
        refine take_at 6 41 (Value.slice (some ⟨b, o, none⟩) n cap) rfl (by rfl) (by kernel_rfl) (by kernel_rfl) (by kernel_rfl) (fun _ _ _ h => h) (Or.inl ⟨by rfl, fun w' hSw => by go_simp⟩) (by assumption) ?_
        simp only [List.setIfInBounds_toArray, List.set_cons_zero, List.set_cons_succ]
        refine take_at 7 42 (.int .i64 lo) rfl (by rfl) (by kernel_rfl) (by kernel_rfl) (by kernel_rfl) (fun _ _ _ h => h) (Or.inl ⟨by rfl, fun w' hSw => by go_simp⟩) (by assumption) ?_
        simp only [List.setIfInBounds_toArray, List.set_cons_zero, List.set_cons_succ]
        refine take_at 8 43 (.pointer (some ⟨b, o + lo * 2, none⟩)) rfl (by rfl) (by kernel_rfl) (by kernel_rfl) (by kernel_rfl) (fun _ _ _ h => h) (Or.inl ⟨by rfl, fun w' hSw => by go_simp⟩) (by assumption) ?_
        simp only [List.setIfInBounds_toArray, List.set_cons_zero, List.set_cons_succ]
        refine take_at 9 44 (.agg (enc z).toArray) rfl (by rfl) (by kernel_rfl) (by kernel_rfl) (by kernel_rfl) (fun _ _ _ h => h) (yieldsIf_load_mid (by rfl) _ _ rfl _ _ rfl (enc z) _ (fun w' hSw => fun j v hv => (hSw.cell (p := ⟨b, o + lo * 2 + j, none⟩) hbl).trans (HZ.out j v hv)) Tryd.underlying41 rfl (by rw [Sb.enc_len]; exact Sb.infoE)) (by assumption) ?_
        simp only [List.setIfInBounds_toArray, List.set_cons_zero, List.set_cons_succ]
        refine take_at 10 45 (.agg (enc t).toArray) rfl (by rfl) (by kernel_rfl) (by kernel_rfl) (by kernel_rfl) (fun _ _ _ h => h) (yieldsIf_load_mid (by rfl) _ _ rfl _ _ rfl (enc t) _ (fun w' hSw => fun j v hv => (hSw.cell (p := ⟨w.heap.size, 0 + j, none⟩) hwr).trans (HTw.out j v hv)) Tryd.underlying41 rfl (by rw [Sb.enc_len]; exact Sb.infoE)) (by assumption) ?_
        simp only [List.setIfInBounds_toArray, List.set_cons_zero, List.set_cons_succ]
        refine wpAnyH_ready (rs := [11]) (by kernel_rfl) (by simp) ?_
        refine AllReadyH.cons rfl (fun K hK => ?_) AllReadyH.nil
        go_simp
        go_wp2_with (go_at_call 56; refine (cmp_at z t c HCF.out _).mono ?_; rintro e w5 ⟨rfl, hg5⟩)
        refine hK.out _ _ (hHeld.trans (hg5.mono hHeld.size)) (fun hHeld => ?_)
        clear hK K
        refine take_at 12 47 (.bool (c == 0)) rfl (by rfl) (by kernel_rfl) (by kernel_rfl) (by kernel_rfl) (fun _ _ _ h => h) (Or.inl ⟨by rfl, fun w' hSw => by go_simp⟩) (by assumption) ?_
        simp only [List.setIfInBounds_toArray, List.set_cons_zero, List.set_cons_succ]
        refine take_at 13 48 (.bool (c == 0)) rfl (by rfl) (by kernel_rfl) (by kernel_rfl) (by kernel_rfl) (fun _ _ _ h => h) (Or.inl ⟨by rfl, fun w' hSw => by go_simp⟩) (by assumption) ?_
        simp only [List.setIfInBounds_toArray, List.set_cons_zero, List.set_cons_succ]
        refine take_at 14 6 (.int .i64 lo) rfl (by rfl) (by kernel_rfl) (by kernel_rfl) (by kernel_rfl) (fun _ _ _ h => h) (Or.inl ⟨by rfl, fun w' hSw => by go_simp⟩) (by assumption) ?_
        simp only [List.setIfInBounds_toArray, List.set_cons_zero, List.set_cons_succ]
        refine take_at 15 7 (.bool (c == 0)) rfl (by rfl) (by kernel_rfl) (by kernel_rfl) (by kernel_rfl) (fun _ _ _ h => h) (Or.inl ⟨by rfl, fun w' hSw => by go_simp⟩) (by assumption) ?_
        simp only [List.setIfInBounds_toArray, List.set_cons_zero, List.set_cons_succ]
        refine wpAnyH_done (by kernel_rfl) ?_ _
        have HB1 := Lib.hid ((Hid.out hbel).trans (hHeld.mono (Hid.out hbel).size))
        clear hHeld hbel
        go_wp2
        go_ret2
        exact ⟨lo, HAT.out, by rw [HF.out]; rfl, HW.out.trans (HB1.out.mono HW.out.size)⟩
      · have q1 : decide ((lo : Int) < (n : Int)) = false := by rw [decide_eq_false_iff_not]; omega
        have q2 : decide (lo < n) = false := by rw [decide_eq_false_iff_not]; omega
        have HF := Lib.hid (found_out (D := D) (k := t.n) (p := lo) (by rw [← HN.out]; omega))
        clear hL
        go_wp2_with fail
        go_big_quiet (fail)
        have HB1 := Lib.hid (below_drewN (Hid.out hbel) nq)
        clear hbel
        generalize World.drewN _ _ = W2 at *
        go_wp2
        go_ret2
        exact ⟨lo, HAT.out, by rw [HF.out]; rfl, HW.out.trans (HB1.out.mono HW.out.size)⟩
end Go.Proofs.YtjkapmghifglcaaDoor.Dv
