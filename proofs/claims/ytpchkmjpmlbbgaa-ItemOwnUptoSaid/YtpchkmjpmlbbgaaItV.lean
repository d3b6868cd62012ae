/- The law's own example ('lives') answers true. -/
import Derived.Test.YtpchkmjpmlbbgaaItT
namespace Go.Proofs.Ytpchkmjpmlbbgaa.It
set_option linter.unusedVariables false
open Go.ChangeShapes Go.WideShapes Go.ChangeAt Go.RowKit
open Ar Rg St
open BigFrame
def a1 : Itm := ⟨{ data := #[97] }, { data := #[49] }⟩
def b2 : Itm := ⟨{ data := #[98] }, { data := #[50] }⟩
def b3 : Itm := ⟨{ data := #[98] }, { data := #[51] }⟩
def c4 : Itm := ⟨{ data := #[99] }, { data := #[52] }⟩
theorem rtA : rt [a1, b2] = true := by decide +kernel
theorem rtB : rt [b3, c4] = true := by decide +kernel
theorem difAB : dif [a1, b2] [b3, c4] = [gone a1, there b3, there c4] := by
  rw [dif_lt _ _ (by decide +kernel), dif_other _ _ (by decide +kernel) (by decide +kernel), dif_right, dif_nil []]
theorem rcAB : rc [gone a1, there b3, there c4] = true := by rw [← difAB]; exact rc_dif rtA rtB
theorem appAB : app [a1, b2] [gone a1, there b3, there c4] = [b3, c4] := by rw [← difAB]; exact app_dif (rt_iff.1 rtA).1 (rt_iff.1 rtB).1
theorem getB : get [b3, c4] { data := #[99] } = some { data := #[52] } := by rfl
theorem getA : get [a1, b2] { data := #[99] } = none := by rfl
theorem undA : und [a1, b2] { data := #[98] } = [b2] := by rfl
set_option maxRecDepth 100000 in
set_option maxHeartbeats 2000000 in
theorem lives_true (w : World) : Calls Try.prog 16 #[] w fun e w' => e = .returned (.bool true) ∧ Below w.heap.size w w' := by
  have hb0 : Below w.heap.size w ((w.alloc (.cells #[.string a1.k, .string a1.v, .string b2.k, .string b2.v] 43)).alloc (.cells #[.string b3.k, .string b3.v, .string c4.k, .string c4.v] 43)) := ((Below.refl _ _).alloc (Nat.le_refl _) _).alloc (by simp) _
  have hl1 : Ls enc 2 (w.alloc (.cells #[.string a1.k, .string a1.v, .string b2.k, .string b2.v] 43)) (w.heap.size + 1) (some ⟨w.heap.size, 0, none⟩) [a1, b2] := Ls.made enc_len w [a1, b2] _ _ (Nat.lt_succ_self _)
  have hl2 : Ls enc 2 ((w.alloc (.cells #[.string a1.k, .string a1.v, .string b2.k, .string b2.v] 43)).alloc (.cells #[.string b3.k, .string b3.v, .string c4.k, .string c4.v] 43)) (w.heap.size + 2) (some ⟨w.heap.size + 1, 0, none⟩) [b3, c4] := by
    have := Ls.made enc_len (w.alloc (.cells #[.string a1.k, .string a1.v, .string b2.k, .string b2.v] 43)) [b3, c4] 43 (w.heap.size + 2) (by simp)
    simpa [enc] using this
  have hl1' := hl1.below (w' := (w.alloc (.cells #[.string a1.k, .string a1.v, .string b2.k, .string b2.v] 43)).alloc (.cells #[.string b3.k, .string b3.v, .string c4.k, .string c4.v] 43)) ((Below.refl _ _).alloc (by simp) _)
  have hs0 : w.heap.size + 2 ≤ ((w.alloc (.cells #[.string a1.k, .string a1.v, .string b2.k, .string b2.v] 43)).alloc (.cells #[.string b3.k, .string b3.v, .string c4.k, .string c4.v] 43)).heap.size := by simp
  have HB := Lib.hid hb0
  have HA := Lib.hid hl1'
  have HL := Lib.hid hl2
  clear hb0 hl1 hl1' hl2
  simp only [a1, b2, b3, c4] at HB HA HL hs0
  go_enter Try.func16, Try.ntmps16
  go_wp2_with fail
  generalize World.alloc _ _ = W0 at *
  go_at_call 22
  refine (diff_any [a1, b2] [b3, c4] _ _ 2 2 2 2 (w.heap.size + 1) (w.heap.size + 2) rfl rfl (by omega) (by omega) W0 (by omega) (by omega) HA.out HL.out).mono ?_
  rw [rtA, rtB, difAB]
  rintro e w1 ⟨v, he, hM⟩
  have he' : e = .returned (.tuple #[v, .int .i64 0]) := he
  subst he'
  have hM1 : MkC W0 w1 v [gone a1, there b3, there c4] := hM
  clear he hM
  obtain ⟨g, c3, hv, hc3, hcm3, hg3, hlt3, hA3⟩ : ∃ g c, v = .slice (some ⟨g, 0, none⟩) 3 c ∧ 3 ≤ c ∧ c ≤ maxLen ∧ W0.heap.size ≤ g ∧ g < w1.heap.size ∧ Arr Sc.enc 3 w1 g [gone a1, there b3, there c4] := by
    rcases hM1.arr Sc.enc_len with ⟨_, h⟩ | h
    · cases h
    · exact h
  subst hv
  have HM1 := Lib.hid hM1
  have HL3 := Lib.hid (Ls.of_arr hA3 hlt3)
  clear hM1 hA3 hc3 hcm3 hg3
  go_wp2_with fail
  go_at_call 20
  refine (apply_any [a1, b2] [gone a1, there b3, there c4] _ _ 2 2 3 c3 (w.heap.size + 1) w1.heap.size rfl (Nat.le_refl _) (by decide) rfl (by omega) (by omega) w1 (by have := HM1.out.2.size; omega) (Nat.le_refl _) (HA.out.below (HM1.out.2.mono (by omega))) HL3.out).mono ?_
  rw [rtA, rcAB, appAB]
  rintro e w2 ⟨v, he, hM⟩
  have he' : e = .returned (.tuple #[v, .int .i64 0]) := he
  subst he'
  have hM2 : MkI w1 w2 v [b3, c4] := hM
  clear he hM
  obtain ⟨A5, c5, hv, hc5, hcm5, hL5⟩ : ∃ A c, v = .slice A 2 c ∧ 2 ≤ c ∧ c ≤ maxLen ∧ Ls enc 2 w2 w2.heap.size A [b3, c4] := hM2.ls enc_len
  subst hv
  have HB2 := Lib.hid (HM1.out.2.trans (hM2.2.mono HM1.out.2.size))
  have HL3' := Lib.hid (HL3.out.below hM2.2)
  have hs12 : w1.heap.size ≤ w2.heap.size := hM2.2.size
  have HL5 := Lib.hid hL5
  clear hM2 hL5 HM1 HL3
  go_wp2_with fail
  go_at_call 12
  refine (get_any [b3, c4] { data := #[99] } A5 2 c5 w2.heap.size rfl (by omega) w2 (Nat.le_refl _) HL5.out).mono ?_
  rw [rtB, getB]
  rintro e w3 ⟨he, hb3⟩
  have he' : e = .returned (.tuple #[.string { data := #[52] }, .int .i64 0]) := he
  subst he'
  have HB3 := Lib.hid (HB2.out.trans (hb3.mono HB2.out.size))
  have HL3 := Lib.hid (HL3'.out.below (hb3.mono hs12))
  have HL5' := Lib.hid (HL5.out.below hb3)
  have hs23 : w2.heap.size ≤ w3.heap.size := hb3.size
  clear hb3 he HL3' HL5 HB2
  go_wp2_with fail
  go_at_call 14
  refine (under_any [a1, b2] { data := #[98] } (by decide) _ 2 2 (w.heap.size + 1) rfl (Nat.le_refl _) (by decide) (by omega) w3 (by have := HB3.out.size; omega) (HA.out.below (HB3.out.mono (by omega)))).mono ?_
  rw [rtA, undA]
  rintro e w4 ⟨v, he, hM⟩
  have he' : e = .returned (.tuple #[v, .int .i64 0]) := he
  subst he'
  have hM4 : MkI w3 w4 v [b2] := hM
  clear he hM
  obtain ⟨A9, c9, hv, hc9, hcm9, hL9⟩ : ∃ A c, v = .slice A 1 c ∧ 1 ≤ c ∧ c ≤ maxLen ∧ Ls enc 2 w4 w4.heap.size A [b2] := hM4.ls enc_len
  subst hv
  have HB4 := Lib.hid (HB3.out.trans (hM4.2.mono HB3.out.size))
  have HL3' := Lib.hid (HL3.out.below (hM4.2.mono (by omega)))
  have HL5 := Lib.hid (HL5'.out.below (hM4.2.mono hs23))
  have hs34 : w3.heap.size ≤ w4.heap.size := hM4.2.size
  clear hM4 hL9 hc9 hcm9 HB3 HL3 HL5'
  go_wp2_with fail
  go_at_call 12
  refine (get_any [a1, b2] { data := #[99] } _ 2 2 (w.heap.size + 1) rfl (by omega) w4 (by have := HB4.out.size; omega) (HA.out.below (HB4.out.mono (by omega)))).mono ?_
  rw [rtA, getA]
  rintro e w5 ⟨he, hb5⟩
  have he' : e = .returned (.tuple #[.string { data := #[] }, .int .i64 5]) := he
  subst he'
  have HB5 := Lib.hid (HB4.out.trans (hb5.mono HB4.out.size))
  have hL3 := HL3'.out.below (hb5.mono (by omega))
  have HL5' := Lib.hid (HL5.out.below (hb5.mono (by omega)))
  have hs45 : w4.heap.size ≤ w5.heap.size := hb5.size
  clear hb5 he HL3' HL5 HB4
  obtain ⟨b0, o0, hAe, _, hr0⟩ := hL3 0 (gone a1) rfl
  cases hAe
  obtain ⟨b0, o0, hAe, _, hr2⟩ := hL3 2 (there c4) rfl
  cases hAe
  have hc1 : w5.cell? ⟨g, 1, none⟩ = some (.bool false) := hr0 1 _ rfl
  have hc8 : w5.cell? ⟨g, 8, none⟩ = some (.string { data := #[52] }) := hr2 2 _ rfl
  clear hr0 hr2 hL3
  go_wp2_with (go_at_call 17; refine (same_any [b3, c4] [b3, c4] _ A5 2 2 2 c5 (w.heap.size + 2) w2.heap.size rfl rfl (by omega) w5 (by have := HB5.out.size; omega) (by omega) (HL.out.below (HB5.out.mono (by omega))) HL5'.out).mono ?_; rw [sm_iff.2 rfl]; rintro e w6 ⟨rfl, hb6⟩; have HB6 := Lib.hid (HB5.out.trans (hb6.mono HB5.out.size)); clear hb6)
  go_ret
  exact ⟨rfl, HB.out.trans (HB6.out.mono HB.out.size)⟩
end Go.Proofs.Ytpchkmjpmlbbgaa.It
