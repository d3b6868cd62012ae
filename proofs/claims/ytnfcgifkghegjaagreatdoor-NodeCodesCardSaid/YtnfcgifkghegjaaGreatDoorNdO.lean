/- Contract of package node's opened. -/
import Derived.Test.YtnfcgifkghegjaaGreatDoorNdS
import Derived.Test.YtnfcgifkghegjaaGreatDoorNdU
namespace Go.Proofs.YtnfcgifkghegjaaGreatDoor.Nd
set_option linter.unusedVariables false
open Go.ChangeShapes Go.WideShapes Go.ChangeAt Go.RowKit
open Rg
open Pk (be num be_length crc psum_any)
/-- what is opened, and whether it is -/
def OpPost (d : ByteArray) (w : World) (e : Ending) (w' : World) : Prop := ∃ r : ByteArray, e = .returned (.tuple #[.string r, .bool (openL d.data.toList).isSome]) ∧ (∀ l, openL d.data.toList = some l → r = bs l) ∧ Below w.heap.size w w'
theorem below_of_grown {w w1 w2 : World} {q B : Nat} (h : Below B w w1) (hg : w1.grownBy w2 (some q)) (hB : B ≤ w1.heap.size) (hq : B ≤ q) : Below B w w2 :=
  h.grown hg hB (fun k hk => by cases hk; exact hq)
theorem sfx_iff (d : ByteArray) : Tm.sfx d = decide (d.data.toList.getLast? = some 0) := rfl
set_option maxRecDepth 100000 in
set_option maxHeartbeats 2000000 in
theorem opened_any (d : ByteArray) (hd : d.size ≤ 9223372036854775807) (w : World) : Calls Tryz.prog 20 #[.string d] w (OpPost d w) := by
  by_cases h1 : 512 < d.size
  · have HO := Lib.hid (show openL d.data.toList = none by unfold openL; rw [if_pos (.inl (by rw [Array.length_toList]; exact h1))])
    have q1 : decide ((512 : Int) < (d.size : Int)) = true := by rw [decide_eq_true_iff]; omega
    clear h1
    go_enter Tryz.func20, Tryz.ntmps20
    go_wp2
    go_ret2
    exact ⟨_, by rw [HO.out]; rfl, fun l h => by rw [HO.out] at h; (cases h), Below.refl _ _⟩
  · have q1 : decide ((512 : Int) < (d.size : Int)) = false := by rw [decide_eq_false_iff_not]; omega
    have HSF := Lib.hid (fun w => Tm.hasSuffix_any d hd w)
    by_cases h2 : Tm.sfx d = true
    · have h2' : d.data.toList.getLast? = some 0 := by rw [sfx_iff, decide_eq_true_iff] at h2; exact h2
      have HO := Lib.hid (show openL d.data.toList = none by unfold openL; rw [if_pos (.inr h2')])
      rw [h2] at HSF
      clear h1 h2 h2'
      go_enter Tryz.func20, Tryz.ntmps20
      go_wp2_with (go_at_call 40; refine (HSF.out _).mono ?_; rintro e w' ⟨rfl, rfl⟩)
      go_ret2
      exact ⟨_, by rw [HO.out]; rfl, fun l h => by rw [HO.out] at h; (cases h), Below.refl _ _⟩
    have h2 : Tm.sfx d = false := by simpa using h2
    have h2' : ¬ d.data.toList.getLast? = some 0 := by rw [sfx_iff, decide_eq_false_iff_not] at h2; exact h2
    rw [h2] at HSF
    have hlen : d.data.toList.length ≤ 512 := by rw [Array.length_toList]; show d.size ≤ 512; omega
    have hF := fillz_len hlen
    have HF := Lib.hid (fun w => filled_any d 512 (by omega) (by omega) w)
    have hO : openL d.data.toList = if num ((fillz d.data.toList 512).take 4) = (crc ((fillz d.data.toList 512).drop 4)).toNat then some ((fillz d.data.toList 512).drop 4) else none := by
      unfold openL; rw [if_neg (by rintro (h | h); (· omega); (· exact h2' h))]
    have HO := Lib.hid hO
    clear h1 h2 h2' hlen hO
    generalize fillz d.data.toList 512 = F at *
    have hzF : (bs F).size ≤ 512 := by rw [bs_size]; omega
    have htk : tkNum 4 ((bs F).data.toList, false) = (num (F.take 4), (F.drop 4, false)) := tkNum_yes (by rw [bs_size]; omega)
    have HTK := Lib.hid (show ∀ (w : World) (q : Nat), TkR w q (bs F) false → Calls Tryz.prog 42 #[.pointer (some ⟨q, 0, none⟩), .int .i64 4] w fun e w' => e = .returned (.int .u64 (num (F.take 4) : Nat)) ∧ TkR w' q (bs (F.drop 4)) false ∧ w.grownBy w' (some q) from fun w q h => by
      have c := number_tk h 4 (by omega) (by omega) (by unfold maxLen; omega)
      rw [htk] at c
      exact c)
    have HSM := Lib.hid (show ∀ w, Calls Tryz.prog 43 #[.string (bs (F.drop 4))] w fun e w' => e = .returned (.int .u32 ((crc (F.drop 4)).toNat : Nat)) ∧ Below w.heap.size w w' from fun w => psum_any (bs (F.drop 4)) w (by rw [bs_size, List.length_drop]; omega))
    have hlt : (crc (F.drop 4)).toNat < 4294967296 := (crc (F.drop 4)).isLt
    have HR := Lib.hid (show bs (F.drop 4) = bs (F.drop 4) from rfl)
    generalize hV : num (F.take 4) = V at *
    generalize hC : (crc (F.drop 4)).toNat = C at *
    obtain ⟨R, hR⟩ : ∃ R, bs (F.drop 4) = R := ⟨_, rfl⟩
    rw [hR] at HTK HSM
    have HRE := Lib.hid hR
    clear htk hF hV hC hR HR
    by_cases hv : V = C
    · have qv : ((V : Int) == (C : Int)) = true := by rw [beq_iff_eq, hv]
      have HO2 := Lib.hid (show openL d.data.toList = some (F.drop 4) by rw [HO.out, if_pos hv])
      clear hv HO
      go_enter Tryz.func20, Tryz.ntmps20
      go_wp2_with (go_at_call 40; refine (HSF.out _).mono ?_; rintro e w' ⟨rfl, rfl⟩)
      go_at_call 41
      refine (HF.out _).mono ?_
      rintro e w3 ⟨rfl, hb3⟩
      have B3 := Lib.hid hb3
      clear hb3
      go_wp2_with fail
      have hal : Below w3.heap.size w3 (w3.alloc (.cells #[.string (bs F), .bool false] 83)) := (Below.refl _ _).alloc (Nat.le_refl _) _
      have HT4 := Lib.hid (show TkR _ w3.heap.size (bs F) false from heap_alloc_new w3 (.cells #[.string (bs F), .bool false] 83))
      have B4 := Lib.hid (B3.out.trans (hal.mono B3.out.size))
      have hq : w.heap.size ≤ w3.heap.size := B3.out.size
      clear hal
      generalize w3.alloc _ = w4 at *
      generalize w3.heap.size = q at *
      go_at_call 42
      refine (HTK.out _ _ HT4.out).mono ?_
      rintro e W5 ⟨rfl, ht, hg⟩
      have HT5 := Lib.hid (show TkR W5 q R false from ht)
      have B5 := Lib.hid (below_of_grown B4.out hg B4.out.size hq)
      clear ht hg
      go_wp2_with fail
      refine wp_region_T (fun w' : World => w'.cell? ⟨q, 0, none⟩ = some (.string R)) 9 (by kernel_rfl) (by kernel_rfl) ?_
      have hS : W5.drew.cell? ⟨q, 0, none⟩ = some (.string R) := HT5.out.c0
      refine take_T 0 17 (.pointer (some ⟨q, 0, none⟩)) rfl (by rfl) (by kernel_rfl) (by decide) (by kernel_rfl) (by kernel_rfl) (by kernel_rfl) (fun _ _ _ h => h) (Or.inl ⟨by rfl, fun w' hSw => by go_simp⟩) hS ?_
      simp only [List.setIfInBounds_toArray, List.set_cons_zero, List.set_cons_succ]
      refine take_T 1 18 (.string R) rfl (by rfl) (by kernel_rfl) (by decide) (by kernel_rfl) (by kernel_rfl) (by kernel_rfl) (fun _ _ _ h => h) (Or.inl ⟨by rfl, fun w' hSw => by go_simp⟩) hS ?_
      simp only [List.setIfInBounds_toArray, List.set_cons_zero, List.set_cons_succ]
      refine take_T 2 19 (.int .u64 V) rfl (by rfl) (by kernel_rfl) (by decide) (by kernel_rfl) (by kernel_rfl) (by kernel_rfl) (fun _ _ _ h => h) (Or.inl ⟨by rfl, fun w' hSw => by go_simp⟩) hS ?_
      simp only [List.setIfInBounds_toArray, List.set_cons_zero, List.set_cons_succ]
      refine take_T 3 20 (.pointer (some ⟨q, 0, none⟩)) rfl (by rfl) (by kernel_rfl) (by decide) (by kernel_rfl) (by kernel_rfl) (by kernel_rfl) (fun _ _ _ h => h) (Or.inl ⟨by rfl, fun w' hSw => by go_simp⟩) hS ?_
      simp only [List.setIfInBounds_toArray, List.set_cons_zero, List.set_cons_succ]
      refine take_T 4 21 (.string R) rfl (by rfl) (by kernel_rfl) (by decide) (by kernel_rfl) (by kernel_rfl) (by kernel_rfl) (fun _ _ _ h => h) (Or.inl ⟨by rfl, fun w' hSw => by go_simp⟩) hS ?_
      simp only [List.setIfInBounds_toArray, List.set_cons_zero, List.set_cons_succ]
      refine only_T 5 rfl (by kernel_rfl) (by decide) (by rfl) (fun K hK => ?_)
      go_wp2_with fail
      go_at_call 43
      refine (HSM.out _).mono ?_
      rintro e w6 ⟨rfl, hb6⟩
      have hb6 : Below W5.heap.size W5 w6 := ((Below.refl _ _).drew).trans hb6
      have B6 := Lib.hid (B5.out.trans (hb6.mono B5.out.size))
      have hS2 : w6.cell? ⟨q, 0, none⟩ = some (.string R) := (HT5.out.below hb6).c0
      clear hb6
      refine hK.out _ _ hS2 ?_
      clear hK K
      try simp only [Act.put, List.setIfInBounds_toArray, List.set_cons_zero, List.set_cons_succ]
      clear hS
      have hS := hS2
      clear hS2
      refine take_T 6 23 (.int .u64 C) rfl (by rfl) (by kernel_rfl) (by decide) (by kernel_rfl) (by kernel_rfl) (by kernel_rfl) (fun _ _ _ h => h) (Or.inl ⟨by rfl, fun w' hSw => by (go_simp; rw [IntKind.wrap_u64]; omega)⟩) hS ?_
      simp only [List.setIfInBounds_toArray, List.set_cons_zero, List.set_cons_succ]
      refine take_T 7 24 (.bool true) rfl (by rfl) (by kernel_rfl) (by decide) (by kernel_rfl) (by kernel_rfl) (by kernel_rfl) (fun _ _ _ h => h) (Or.inl ⟨by rfl, fun w' hSw => by go_simp⟩) hS ?_
      simp only [List.setIfInBounds_toArray, List.set_cons_zero, List.set_cons_succ]
      refine take_T 8 2 (.string R) rfl (by rfl) (by kernel_rfl) (by decide) (by kernel_rfl) (by kernel_rfl) (by kernel_rfl) (fun _ _ _ h => h) (Or.inl ⟨by rfl, fun w' hSw => by go_simp⟩) hS ?_
      simp only [List.setIfInBounds_toArray, List.set_cons_zero, List.set_cons_succ]
      refine done_T (by kernel_rfl) ?_
      simp only [List.drop_succ_cons, List.drop_zero]
      go_wp2_with fail
      go_ret2
      exact ⟨R, by rw [HO2.out]; rfl, fun l h => by rw [HO2.out] at h; cases h; exact HRE.out.symm, B6.out⟩
    · have qv : ((V : Int) == (C : Int)) = false := by rw [beq_eq_false_iff_ne]; exact fun e => hv (Int.ofNat.inj e)
      have HO2 := Lib.hid (show openL d.data.toList = none by rw [HO.out, if_neg hv])
      clear hv HO
      go_enter Tryz.func20, Tryz.ntmps20
      go_wp2_with (go_at_call 40; refine (HSF.out _).mono ?_; rintro e w' ⟨rfl, rfl⟩)
      go_at_call 41
      refine (HF.out _).mono ?_
      rintro e w3 ⟨rfl, hb3⟩
      have B3 := Lib.hid hb3
      clear hb3
      go_wp2_with fail
      have hal : Below w3.heap.size w3 (w3.alloc (.cells #[.string (bs F), .bool false] 83)) := (Below.refl _ _).alloc (Nat.le_refl _) _
      have HT4 := Lib.hid (show TkR _ w3.heap.size (bs F) false from heap_alloc_new w3 (.cells #[.string (bs F), .bool false] 83))
      have B4 := Lib.hid (B3.out.trans (hal.mono B3.out.size))
      have hq : w.heap.size ≤ w3.heap.size := B3.out.size
      clear hal
      generalize w3.alloc _ = w4 at *
      generalize w3.heap.size = q at *
      go_at_call 42
      refine (HTK.out _ _ HT4.out).mono ?_
      rintro e W5 ⟨rfl, ht, hg⟩
      have HT5 := Lib.hid (show TkR W5 q R false from ht)
      have B5 := Lib.hid (below_of_grown B4.out hg B4.out.size hq)
      clear ht hg
      go_wp2_with fail
      refine wp_region_T (fun w' : World => w'.cell? ⟨q, 0, none⟩ = some (.string R)) 9 (by kernel_rfl) (by kernel_rfl) ?_
      have hS : W5.drew.cell? ⟨q, 0, none⟩ = some (.string R) := HT5.out.c0
      refine take_T 0 17 (.pointer (some ⟨q, 0, none⟩)) rfl (by rfl) (by kernel_rfl) (by decide) (by kernel_rfl) (by kernel_rfl) (by kernel_rfl) (fun _ _ _ h => h) (Or.inl ⟨by rfl, fun w' hSw => by go_simp⟩) hS ?_
      simp only [List.setIfInBounds_toArray, List.set_cons_zero, List.set_cons_succ]
      refine take_T 1 18 (.string R) rfl (by rfl) (by kernel_rfl) (by decide) (by kernel_rfl) (by kernel_rfl) (by kernel_rfl) (fun _ _ _ h => h) (Or.inl ⟨by rfl, fun w' hSw => by go_simp⟩) hS ?_
      simp only [List.setIfInBounds_toArray, List.set_cons_zero, List.set_cons_succ]
      refine take_T 2 19 (.int .u64 V) rfl (by rfl) (by kernel_rfl) (by decide) (by kernel_rfl) (by kernel_rfl) (by kernel_rfl) (fun _ _ _ h => h) (Or.inl ⟨by rfl, fun w' hSw => by go_simp⟩) hS ?_
      simp only [List.setIfInBounds_toArray, List.set_cons_zero, List.set_cons_succ]
      refine take_T 3 20 (.pointer (some ⟨q, 0, none⟩)) rfl (by rfl) (by kernel_rfl) (by decide) (by kernel_rfl) (by kernel_rfl) (by kernel_rfl) (fun _ _ _ h => h) (Or.inl ⟨by rfl, fun w' hSw => by go_simp⟩) hS ?_
      simp only [List.setIfInBounds_toArray, List.set_cons_zero, List.set_cons_succ]
      refine take_T 4 21 (.string R) rfl (by rfl) (by kernel_rfl) (by decide) (by kernel_rfl) (by kernel_rfl) (by kernel_rfl) (fun _ _ _ h => h) (Or.inl ⟨by rfl, fun w' hSw => by go_simp⟩) hS ?_
      simp only [List.setIfInBounds_toArray, List.set_cons_zero, List.set_cons_succ]
      refine only_T 5 rfl (by kernel_rfl) (by decide) (by rfl) (fun K hK => ?_)
      go_wp2_with fail
      go_at_call 43
      refine (HSM.out _).mono ?_
      rintro e w6 ⟨rfl, hb6⟩
      have hb6 : Below W5.heap.size W5 w6 := ((Below.refl _ _).drew).trans hb6
      have B6 := Lib.hid (B5.out.trans (hb6.mono B5.out.size))
      have hS2 : w6.cell? ⟨q, 0, none⟩ = some (.string R) := (HT5.out.below hb6).c0
      clear hb6
      refine hK.out _ _ hS2 ?_
      clear hK K
      try simp only [Act.put, List.setIfInBounds_toArray, List.set_cons_zero, List.set_cons_succ]
      clear hS
      have hS := hS2
      clear hS2
      refine take_T 6 23 (.int .u64 C) rfl (by rfl) (by kernel_rfl) (by decide) (by kernel_rfl) (by kernel_rfl) (by kernel_rfl) (fun _ _ _ h => h) (Or.inl ⟨by rfl, fun w' hSw => by (go_simp; rw [IntKind.wrap_u64]; omega)⟩) hS ?_
      simp only [List.setIfInBounds_toArray, List.set_cons_zero, List.set_cons_succ]
      refine take_T 7 24 (.bool false) rfl (by rfl) (by kernel_rfl) (by decide) (by kernel_rfl) (by kernel_rfl) (by kernel_rfl) (fun _ _ _ h => h) (Or.inl ⟨by rfl, fun w' hSw => by go_simp⟩) hS ?_
      simp only [List.setIfInBounds_toArray, List.set_cons_zero, List.set_cons_succ]
      refine take_T 8 2 (.string R) rfl (by rfl) (by kernel_rfl) (by decide) (by kernel_rfl) (by kernel_rfl) (by kernel_rfl) (fun _ _ _ h => h) (Or.inl ⟨by rfl, fun w' hSw => by go_simp⟩) hS ?_
      simp only [List.setIfInBounds_toArray, List.set_cons_zero, List.set_cons_succ]
      refine done_T (by kernel_rfl) ?_
      simp only [List.drop_succ_cons, List.drop_zero]
      go_wp2_with fail
      go_ret2
      exact ⟨R, by rw [HO2.out]; rfl, fun l h => by rw [HO2.out] at h; (cases h), B6.out⟩
end Go.Proofs.YtnfcgifkghegjaaGreatDoor.Nd
