/- The walks of the laws on the order of digits, and on what digits are. -/
import Derived.Test.YteelickbdigpkaaHexL
namespace Go.Proofs.Yteelickbdigpkaa.Hc
set_option linter.unusedVariables false
open Go.ChangeShapes Go.WideShapes Go.ChangeAt Go.RowKit
open Pk (u8s u8s_length u8s_set u8s_get)
theorem list_of (l : List UInt8) : (⟨l.toArray⟩ : ByteArray).toList = l := by rw [ByteArray.toList_eq]
theorem less_hex : ∀ a b : List UInt8, Op.bytesLess (hexL a) (hexL b) = Op.bytesLess a b
  | [], [] => rfl
  | [], y :: b => rfl
  | x :: a, [] => rfl
  | x :: a, y :: b => by
    have ih := less_hex a b
    have hx := x.toNat_lt
    have hy := y.toNat_lt
    have e1 : (hd (x.toNat / 16) < hd (y.toNat / 16)) ↔ x.toNat / 16 < y.toNat / 16 := by rw [UInt8.lt_iff_toNat_lt]; exact hd_lt _ _ (by omega) (by omega)
    have e2 : (hd (x.toNat % 16) < hd (y.toNat % 16)) ↔ x.toNat % 16 < y.toNat % 16 := by rw [UInt8.lt_iff_toNat_lt]; exact hd_lt _ _ (by omega) (by omega)
    have e3 : (hd (x.toNat / 16) = hd (y.toNat / 16)) ↔ x.toNat / 16 = y.toNat / 16 := hd_inj _ _ (by omega) (by omega)
    have e4 : (hd (x.toNat % 16) = hd (y.toNat % 16)) ↔ x.toNat % 16 = y.toNat % 16 := hd_inj _ _ (by omega) (by omega)
    have e5 : x < y ↔ x.toNat < y.toNat := UInt8.lt_iff_toNat_lt
    have e6 : x = y ↔ x.toNat = y.toNat := ⟨fun h => by rw [h], fun h => UInt8.toNat.inj h⟩
    rw [Bool.eq_iff_iff]
    simp only [hexL, Op.bytesLess, ih, Bool.or_eq_true, Bool.and_eq_true, decide_eq_true_eq, beq_iff_eq, e1, e2, e3, e4, e5, e6]
    constructor
    · rintro (h | ⟨h, h' | ⟨h', h''⟩⟩)
      · left; omega
      · left; omega
      · right; exact ⟨by omega, h''⟩
    · rintro (h | ⟨h, h'⟩)
      · by_cases hq : x.toNat / 16 < y.toNat / 16
        · left; exact hq
        · right; exact ⟨by omega, Or.inl (by omega)⟩
      · right; exact ⟨by omega, Or.inr ⟨by omega, h'⟩⟩
theorem conv_at {w : World} {g : Nat} {C : Array Value} {l : List UInt8} (hC : C = (u8s l).toArray) (hl : l.length = 32) (L : ByteArray) (hL : L = ⟨l.toArray⟩) (h : w.rangeAt g 0 C.toList) : (convert 29 9 (.slice (some ⟨g, 0, none⟩) 32 32)).run Try.prog w = .ok (.string L) w := by
  subst hL
  have := run_convert_bytes_back (P := Try.prog) w 29 9 5 ⟨g, 0, none⟩ 32 l Try.underlying29 Try.underlying5 Try.underlying9 (by
    intro j hj
    have hplain : (⟨g, 0, none⟩ : Addr).add j = ⟨g, j, none⟩ := by unfold Addr.add; split <;> simp_all
    rw [hplain]
    have := h j (.int .u8 (l[j].toNat : Int)) (by rw [hC]; simpa using u8s_get l j hj)
    simpa using this)
  rw [hl] at this
  exact this
theorem keep2 {w0 w w' : World} {ga gb : Nat} {A B : List Value} (hA : 0 < A.length) (hB : 0 < B.length) (h1 : w.rangeAt ga 0 A) (h2 : w.rangeAt gb 0 B) (h4 : Below ga w0 w) (hb : Below w.heap.size w w') :
    w'.rangeAt ga 0 A ∧ w'.rangeAt gb 0 B ∧ Below ga w0 w' := by
  have hlt : ga < w.heap.size := World.block_lt_of_cell? w _ (h1 0 A[0] (List.getElem?_eq_getElem hA))
  exact ⟨range_below hA h1 hb, range_below hB h2 hb, h4.trans (hb.mono (Nat.le_of_lt hlt))⟩
set_option maxRecDepth 100000 in
set_option maxHeartbeats 500000 in
theorem hashOrder_walk (l : List UInt8) (hl : l.length = 32) (m : List UInt8) (hm : m.length = 32) (w : World) :
    Calls Try.prog 5 #[.agg (u8s l).toArray, .agg (u8s m).toArray] w fun e w' => e = .returned (.bool true) ∧ Below w.heap.size w w' := by
  obtain ⟨X, hX⟩ : ∃ X : ByteArray, X = ⟨(hexL l).toArray⟩ := ⟨_, rfl⟩
  obtain ⟨Y, hY⟩ : ∃ Y : ByteArray, Y = ⟨(hexL m).toArray⟩ := ⟨_, rfl⟩
  obtain ⟨L, hL⟩ : ∃ L : ByteArray, L = ⟨l.toArray⟩ := ⟨_, rfl⟩
  obtain ⟨M, hM⟩ : ∃ M : ByteArray, M = ⟨m.toArray⟩ := ⟨_, rfl⟩
  obtain ⟨β, hβ⟩ : ∃ β : Bool, β = Op.bytesLess l m := ⟨_, rfl⟩
  have b1 : Op.bytesLess X.toList Y.toList = β := by rw [hX, hY, list_of, list_of, less_hex, hβ]
  have b2 : Op.bytesLess L.toList M.toList = β := by rw [hL, hM, list_of, list_of, hβ]
  have hXs : X.size = 64 := by rw [hX]; show (hexL l).toArray.size = 64; rw [List.size_toArray, hexL_length, hl]
  have hYs : Y.size = 64 := by rw [hY]; show (hexL m).toArray.size = 64; rw [List.size_toArray, hexL_length, hm]
  clear hβ
  obtain ⟨A, hA⟩ : ∃ A, A = (u8s l).toArray := ⟨_, rfl⟩
  obtain ⟨B, hB⟩ : ∃ B, B = (u8s m).toArray := ⟨_, rfl⟩
  rw [← hA, ← hB]
  have HX := Lib.hid hX
  have HY := Lib.hid hY
  have HL := Lib.hid hL
  have HM := Lib.hid hM
  have HA := Lib.hid hA
  have HB := Lib.hid hB
  have HRA := Lib.hid (arr_row hA hl)
  have HRB := Lib.hid (arr_row hB hm)
  have A0 := Lib.hid (show At ((w.alloc (.cells A 22)).alloc (.cells B 22)) w.heap.size A from (Below.heap_alloc _ _ _ (by simp)).trans (heap_alloc_new w _))
  have B0 := Lib.hid (show At ((w.alloc (.cells A 22)).alloc (.cells B 22)) (w.heap.size + 1) B from (show (w.alloc (.cells A 22)).heap.size = w.heap.size + 1 by simp) ▸ heap_alloc_new _ _)
  have C0 := Lib.hid (((Below.refl w.heap.size w).alloc (Nat.le_refl _) (.cells A 22)).alloc (by simp) (.cells B 22))
  clear hX hY hL hM hA hB
  go_enter Try.func5, Try.ntmps5
  go_wp2_with fail
  generalize (w.alloc (.cells A 22)).alloc (.cells B 22) = V0 at *
  refine (codes_any _).mono ?_
  rintro e w1 ⟨rfl, hb1⟩
  have A1 := A0.out.below hb1
  have B1 := B0.out.below hb1
  have bb := C0.out.trans (hb1.mono (Nat.le_of_lt A0.out.lt))
  have ra := A1.range
  have rb := B1.range
  clear A0 B0 C0 hb1 A1 B1
  go_wp2_with fail
  generalize w.heap.size + 1 = gb at *
  generalize hga : w.heap.size = ga at *
  have gu := Try.underlying22
  have gi1 : (Try.prog.info? 22).map (·.size) = some A.toList.length := by rw [Array.length_toList]; exact HRA.out.1
  have gi2 : (Try.prog.info? 22).map (·.size) = some B.toList.length := by rw [Array.length_toList]; exact HRB.out.1
  have hn1 : A.toList.length = 32 := by rw [Array.length_toList, ← HRA.out.2.1]; rfl
  have hn2 : B.toList.length = 32 := by rw [Array.length_toList, ← HRB.out.2.1]; rfl
  refine wp_region_held_drew (S := fun w' => w'.rangeAt ga 0 A.toList ∧ w'.rangeAt gb 0 B.toList ∧ Below ga w w') (by kernel_rfl) ⟨ra, rb, bb.drew⟩ (fun hHeld => ?_)
  refine take_at 0 7 (.agg A.toList.toArray) rfl (by rfl) (by kernel_rfl) (by kernel_rfl) (by kernel_rfl) (fun _ _ _ h => h) (yieldsIf_load_mid (by rfl) _ _ rfl _ _ rfl A.toList _ (fun w' hSw => hSw.1) gu rfl gi1) (by assumption) ?_
  simp only [List.setIfInBounds_toArray, List.set_cons_zero, List.set_cons_succ]
  refine take_at 2 9 (.agg B.toList.toArray) rfl (by rfl) (by kernel_rfl) (by kernel_rfl) (by kernel_rfl) (fun _ _ _ h => h) (yieldsIf_load_mid (by rfl) _ _ rfl _ _ rfl B.toList _ (fun w' hSw => hSw.2.1) gu rfl gi2) (by assumption) ?_
  simp only [List.setIfInBounds_toArray, List.set_cons_zero, List.set_cons_succ]
  simp only [Array.toArray_toList]
  refine take_at 5 12 (.slice (some ⟨ga, 0, none⟩) 32 32) rfl (by rfl) (by kernel_rfl) (by kernel_rfl) (by kernel_rfl) (fun _ _ _ h => h) (Or.inl ⟨by rfl, fun w' hSw => by go_simp⟩) (by assumption) ?_
  simp only [List.setIfInBounds_toArray, List.set_cons_zero, List.set_cons_succ]
  refine take_at 6 13 (.string L) rfl (by rfl) (by kernel_rfl) (by kernel_rfl) (by kernel_rfl) (fun _ _ _ h => h) (Or.inl ⟨by rfl, fun w' hSw => by have hcv := conv_at HA.out hl L HL.out hSw.1; go_simp⟩) (by assumption) ?_
  simp only [List.setIfInBounds_toArray, List.set_cons_zero, List.set_cons_succ]
  refine take_at 7 14 (.slice (some ⟨gb, 0, none⟩) 32 32) rfl (by rfl) (by kernel_rfl) (by kernel_rfl) (by kernel_rfl) (fun _ _ _ h => h) (Or.inl ⟨by rfl, fun w' hSw => by go_simp⟩) (by assumption) ?_
  simp only [List.setIfInBounds_toArray, List.set_cons_zero, List.set_cons_succ]
  refine take_at 8 15 (.string M) rfl (by rfl) (by kernel_rfl) (by kernel_rfl) (by kernel_rfl) (fun _ _ _ h => h) (Or.inl ⟨by rfl, fun w' hSw => by have hcv := conv_at HB.out hm M HM.out hSw.2.1; go_simp⟩) (by assumption) ?_
  simp only [List.setIfInBounds_toArray, List.set_cons_zero, List.set_cons_succ]
  refine take_at 9 16 (.bool β) rfl (by rfl) (by kernel_rfl) (by kernel_rfl) (by kernel_rfl) (fun _ _ _ h => h) (Or.inl ⟨by rfl, fun w' hSw => by go_simp⟩) (by assumption) ?_
  simp only [List.setIfInBounds_toArray, List.set_cons_zero, List.set_cons_succ]
  refine wpAnyH_ready (rs := [1]) (by kernel_rfl) (by simp) ?_
  refine AllReadyH.cons rfl (fun K hK => ?_) AllReadyH.nil
  go_simp
  go_wp2_with (go_at_call 10; refine (hex_same l hl A HA.out X HX.out _).mono ?_; rintro e w5 ⟨rfl, hb5⟩)
  refine hK.out _ _ (keep2 (by omega) (by omega) hHeld.1 hHeld.2.1 hHeld.2.2 hb5) (fun hHeld => ?_)
  clear hK K
  refine wpAnyH_ready (rs := [3]) (by kernel_rfl) (by simp) ?_
  refine AllReadyH.cons rfl (fun K hK => ?_) AllReadyH.nil
  go_simp
  go_wp2_with (go_at_call 10; refine (hex_same m hm B HB.out Y HY.out _).mono ?_; rintro e w5 ⟨rfl, hb5⟩)
  refine hK.out _ _ (keep2 (by omega) (by omega) hHeld.1 hHeld.2.1 hHeld.2.2 hb5) (fun hHeld => ?_)
  clear hK K
  refine take_at 4 11 (.bool β) rfl (by rfl) (by kernel_rfl) (by kernel_rfl) (by kernel_rfl) (fun _ _ _ h => h) (Or.inl ⟨by rfl, fun w' hSw => by go_simp⟩) (by assumption) ?_
  simp only [List.setIfInBounds_toArray, List.set_cons_zero, List.set_cons_succ]
  refine take_at 10 17 (.bool true) rfl (by rfl) (by kernel_rfl) (by kernel_rfl) (by kernel_rfl) (fun _ _ _ h => h) (Or.inl ⟨by rfl, fun w' hSw => by go_simp⟩) (by assumption) ?_
  simp only [List.setIfInBounds_toArray, List.set_cons_zero, List.set_cons_succ]
  refine take_at 11 4 (.bool true) rfl (by rfl) (by kernel_rfl) (by kernel_rfl) (by kernel_rfl) (fun _ _ _ h => h) (Or.inl ⟨by rfl, fun w' hSw => by go_simp⟩) (by assumption) ?_
  simp only [List.setIfInBounds_toArray, List.set_cons_zero, List.set_cons_succ]
  refine wpAnyH_done (by kernel_rfl) ?_ _
  have hfin := hHeld.2.2
  clear hHeld
  go_wp2
  go_ret
  exact ⟨rfl, by rw [hga]; exact hfin⟩
end Go.Proofs.Yteelickbdigpkaa.Hc
