/- The walk of the law ItemSteps. -/
import Derived.Test.YtpchkmjpmlbbgaaItW
namespace Go.Proofs.Ytpchkmjpmlbbgaa.It
set_option linter.unusedVariables false
open Go.ChangeShapes Go.WideShapes Go.ChangeAt Go.RowKit
open Ar Rg St
open BigFrame
theorem SlC.take {w : World} {A : Option Addr} {n c : Nat} {C : List Ch} (h : SlC w A n c C) {p : Nat} (hp : p ≤ n) : SlC w A p c (C.take p) := by
  obtain ⟨h1, h2, h3, B, hB, hL⟩ := h
  exact ⟨by rw [List.length_take]; omega, by omega, h3, B, hB, hL.take p⟩
theorem SlC.drop {w : World} {A : Option Addr} {n c : Nat} {C : List Ch} (h : SlC w A n c C) {p : Nat} (hp : p ≤ n) : SlC w (if c = p then A else A.map (·.add (p * 3))) (n - p) (c - p) (C.drop p) := by
  obtain ⟨h1, h2, h3, B, hB, hL⟩ := h
  exact ⟨by rw [List.length_drop]; omega, by omega, by omega, B, hB, hL.drop h1 h2 hp⟩
theorem rc_app (C C' : List Ch) : rc (C ++ C') = (rc C && rc C') := by unfold rc; rw [List.all_append]
set_option maxRecDepth 100000 in
set_option maxHeartbeats 2000000 in
theorem itemSteps_walk (w : World) (D : List Itm) (A : Option Addr) (n c : Nat) (C : List Ch) (A' : Option Addr) (m c' : Nat) (at_ : Int) (hl : n ≤ 1048576) (hD : SlI w A n c D) (hl' : m ≤ 1048576) (hC : SlC w A' m c' C) (hat : (Lit.int .i64 at_).wf = true) :
    Calls Try.prog 7 #[.slice A n c, .slice A' m c', .int .i64 at_] w fun e w' => e = .returned (.bool true) ∧ Below w.heap.size w w' := by
  have HD := Lib.hid hD
  have HC := Lib.hid hC
  have HN := Lib.hid hD.1
  have HN' := Lib.hid hC.1
  have hcc : m ≤ c' := hC.2.1
  have e4 : er false = 4 := rfl
  have e0 : er true = 0 := rfl
  clear hD hC hat
  by_cases h0 : at_ < 0
  · go_enter Try.func7, Try.ntmps7
    go_wp2_with fail
    go_at_call 16
    refine (lives_true _).mono ?_
    rintro e w1 ⟨rfl, hb1⟩
    have HB1 := Lib.hid hb1
    clear hb1
    go_wp2
    go_ret
    exact ⟨rfl, HB1.out⟩
  · obtain ⟨p, rfl⟩ : ∃ p : Nat, at_ = (p : Int) := ⟨at_.toNat, by omega⟩
    have h1 : decide (((p : Nat) : Int) < 0) = false := by rw [decide_eq_false_iff_not]; exact h0
    clear h0
    by_cases hp : m < p
    · have h2 : decide ((m : Int) < (p : Int)) = true := by rw [decide_eq_true_iff]; omega
      go_enter Try.func7, Try.ntmps7
      go_wp2_with fail
      go_at_call 16
      refine (lives_true _).mono ?_
      rintro e w1 ⟨rfl, hb1⟩
      have HB1 := Lib.hid hb1
      clear hb1
      go_wp2
      go_ret
      exact ⟨rfl, HB1.out⟩
    · have h2 : decide ((m : Int) < (p : Int)) = false := by rw [decide_eq_false_iff_not]; omega
      have hpm : p ≤ m := by omega
      obtain ⟨A1, hif⟩ : ∃ A1, (if c' = p then A' else Option.map (fun x => x.add (p * 3)) A') = A1 := ⟨_, rfl⟩
      have HC1 := Lib.hid (show SlC w A1 (m - p) (c' - p) (C.drop p) from hif ▸ HC.out.drop hpm)
      have HC2 := Lib.hid (HC.out.take hpm)
      have hsp : (rt D && rc C) = ((rt D && rc (C.take p)) && rc (C.drop p)) := by
        have := rc_app (C.take p) (C.drop p)
        rw [List.take_append_drop] at this
        rw [this, Bool.and_assoc]
      have hap : app (app D (C.take p)) (C.drop p) = app D C := by rw [← app_append, List.take_append_drop]
      have HSP := Lib.hid hsp
      have HAP := Lib.hid hap
      clear hsp hap
      obtain ⟨q, hq⟩ : ∃ q, (rt D && rc C) = q := ⟨_, rfl⟩
      have HQ := Lib.hid hq
      clear hq
      go_enter Try.func7, Try.ntmps7
      go_wp2_with fail
      go_at_call 16
      refine (lives_true _).mono ?_
      rintro e w1 ⟨rfl, hb1⟩
      have HB1 := Lib.hid hb1
      clear hb1
      go_wp2_with fail
      go_at_call 20
      refine (applyS (HD.out.below HB1.out) (HC.out.below HB1.out) (by omega) (by omega)).mono ?_
      rw [HQ.out]
      rintro e w2 ⟨A2, n2, c2, he, hs2, hb2⟩
      have he' : e = .returned (.tuple #[.slice A2 n2 c2, .int .i64 (er q)]) := he
      subst he'
      have HS2 := Lib.hid (show SlI w2 A2 n2 c2 (if q then app D C else []) from hs2)
      have HB2 := Lib.hid (HB1.out.trans (hb2.mono HB1.out.size))
      clear hb2 hs2 he
      have hn2 : n2 ≤ 2097152 := by
        have h1 := HS2.out.1
        have h2 := app_len C D
        have h3 := HN.out
        have h4 := HN'.out
        cases q <;> simp at h1 <;> omega
      have hq2 : (rt D && rc (C.take p)) = false ∨ (rt D && rc (C.take p)) = true := by cases (rt D && rc (C.take p)) <;> simp
      rcases hq2 with hq2 | hq2
      · have HQ2 := Lib.hid hq2
        have hqf : q = false := by rw [← HQ.out, HSP.out, hq2]; rfl
        subst hqf
        clear hq2
        go_wp2_with fail
        go_at_call 20
        refine (applyS (HD.out.below HB2.out) (HC2.out.below HB2.out) (by omega) (by omega)).mono ?_
        rw [HQ2.out]
        rintro e w3 ⟨A3, n3, c3, he, hs3, hb3⟩
        have he' : e = .returned (.tuple #[.slice A3 n3 c3, .int .i64 (er false)]) := he
        subst he'
        have HS3 := Lib.hid (show SlI w3 A3 n3 c3 [] from hs3)
        have HB3 := Lib.hid (HB2.out.trans (hb3.mono HB2.out.size))
        clear hb3 hs3 he
        go_wp2
        go_ret
        exact ⟨rfl, HB3.out⟩
      · have HQ2 := Lib.hid hq2
        have hxy : rt D = true ∧ rc (C.take p) = true := by simpa using hq2
        have HXY := Lib.hid hxy
        have HQD := Lib.hid (show rc (C.drop p) = q by rw [← HQ.out, HSP.out, hq2]; rfl)
        clear hq2 hxy
        go_wp2_with fail
        go_at_call 20
        refine (applyS (HD.out.below HB2.out) (HC2.out.below HB2.out) (by omega) (by omega)).mono ?_
        rw [HQ2.out]
        rintro e w3 ⟨A3, n3, c3, he, hs3, hb3⟩
        have he' : e = .returned (.tuple #[.slice A3 n3 c3, .int .i64 (er true)]) := he
        subst he'
        have HS3 := Lib.hid (show SlI w3 A3 n3 c3 (app D (C.take p)) from hs3)
        have HB3 := Lib.hid (HB2.out.trans (hb3.mono HB2.out.size))
        have HS2' := Lib.hid (HS2.out.below hb3)
        clear hb3 hs3 he HS2
        have hn3 : n3 ≤ 2097152 := by
          have h1 := HS3.out.1
          have h2 := app_len (C.take p) D
          have h3 := HN.out
          rw [List.length_take] at h2
          omega
        have HRA := Lib.hid (rt_app HXY.out.1 HXY.out.2)
        go_wp2_with fail
        go_at_call 20
        refine (applyS HS3.out (HC1.out.below HB3.out) (by omega) (by omega)).mono ?_
        rw [HRA.out, HQD.out, HAP.out]
        rintro e w4 ⟨A4, n4, c4, he, hs4, hb4⟩
        have he' : e = .returned (.tuple #[.slice A4 n4 c4, .int .i64 (er q)]) := he
        subst he'
        have HS4 := Lib.hid (show SlI w4 A4 n4 c4 (if q then app D C else []) from hs4)
        have HB4 := Lib.hid (HB3.out.trans (hb4.mono HB3.out.size))
        have HS2 := Lib.hid (HS2'.out.below hb4)
        clear hb4 hs4 he HS2'
        have hee : (er q == er q) = true := by simp
        go_wp2_with fail
        go_at_call 17
        refine (sameS HS2.out HS4.out (by omega)).mono ?_
        rw [sm_iff.2 rfl]
        rintro e w5 ⟨rfl, hb5⟩
        have HB5 := Lib.hid (HB4.out.trans (hb5.mono HB4.out.size))
        clear hb5
        go_wp2
        go_ret
        exact ⟨rfl, HB5.out⟩
end Go.Proofs.Ytpchkmjpmlbbgaa.It
