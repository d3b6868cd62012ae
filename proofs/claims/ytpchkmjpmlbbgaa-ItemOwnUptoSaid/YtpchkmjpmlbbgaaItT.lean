/- Contracts of package item's Diff and Apply. -/
import Derived.Test.YtpchkmjpmlbbgaaItS
namespace Go.Proofs.Ytpchkmjpmlbbgaa.It
set_option linter.unusedVariables false
open Go.ChangeShapes Go.WideShapes Go.ChangeAt Go.RowKit
open Ar Rg St
open BigFrame
set_option maxRecDepth 100000 in
set_option maxHeartbeats 1000000 in
theorem diff_any (X Y : List Itm) (A A' : Option Addr) (n c m c' B B' : Nat) (hn : n = X.length) (hm : m = Y.length) (hlen : n ≤ 1099511627776) (hlen' : m ≤ 1099511627776) (w : World) (hB : B ≤ w.heap.size) (hB' : B' ≤ w.heap.size) (hX : Ls enc 2 w B A X) (hY : Ls enc 2 w B' A' Y) :
    Calls Try.prog 22 #[.slice A n c, .slice A' m c'] w fun e w' => ∃ v, e = .returned (.tuple #[v, .int .i64 (er (rt X && rt Y))]) ∧ MkC w w' v (if rt X && rt Y then dif X Y else []) := by
  have HX := Lib.hid hX
  have HY := Lib.hid hY
  have HN := Lib.hid hn
  have HN' := Lib.hid hm
  have HC := Lib.hid (rightList_any X A n c B hn (by omega) w hB hX)
  clear hn hm hX hY
  cases hx : rt X
  · rw [hx] at HC
    clear hx
    go_enter Try.func22, Try.ntmps22
    go_wp2_with (go_at_call 25; refine HC.out.mono ?_; rintro e w1 ⟨rfl, hb1⟩; have HB1 := Lib.hid hb1; clear hb1)
    go_ret2
    exact ⟨_, rfl, Mk.nil HB1.out⟩
  · rw [hx] at HC
    clear hx
    cases hy : rt Y
    · go_enter Try.func22, Try.ntmps22
      go_wp2_with fail
      go_at_call 25
      refine HC.out.mono ?_
      rintro e w1 ⟨rfl, hb1⟩
      have HB1 := Lib.hid hb1
      clear hb1 HC
      go_wp2_with fail
      go_at_call 25
      refine (rightList_any Y A' m c' B' HN'.out (by omega) w1 (Nat.le_trans hB' HB1.out.size) (HY.out.below (HB1.out.mono hB'))).mono ?_
      rintro e w2 ⟨rfl, hb2⟩
      have HB2 := Lib.hid (HB1.out.trans (hb2.mono HB1.out.size))
      clear hb2 HB1
      rw [hy]
      clear hy
      go_wp2
      go_ret2
      exact ⟨_, rfl, Mk.nil HB2.out⟩
    · go_enter Try.func22, Try.ntmps22
      go_wp2_with fail
      go_at_call 25
      refine HC.out.mono ?_
      rintro e w1 ⟨rfl, hb1⟩
      have HB1 := Lib.hid hb1
      clear hb1 HC
      go_wp2_with fail
      go_at_call 25
      refine (rightList_any Y A' m c' B' HN'.out (by omega) w1 (Nat.le_trans hB' HB1.out.size) (HY.out.below (HB1.out.mono hB'))).mono ?_
      rintro e w2 ⟨rfl, hb2⟩
      have HB2 := Lib.hid (HB1.out.trans (hb2.mono HB1.out.size))
      clear hb2 HB1
      rw [hy]
      clear hy
      go_wp2_with fail
      go_at_call 35
      refine (apart_any X Y A A' n c m c' B B' HN.out HN'.out hlen hlen' w2 (Nat.le_trans hB HB2.out.size) (Nat.le_trans hB' HB2.out.size) (HX.out.below (HB2.out.mono hB)) (HY.out.below (HB2.out.mono hB'))).mono ?_
      rintro e w3 ⟨v, rfl, hM⟩
      have HM := Lib.hid (hM.since HB2.out)
      clear hM
      go_wp2
      go_ret2
      exact ⟨_, rfl, HM.out⟩
set_option maxRecDepth 100000 in
set_option maxHeartbeats 1000000 in
theorem apply_any (D : List Itm) (C : List Ch) (A A' : Option Addr) (n c m c' B B' : Nat) (hn : n = D.length) (hc : n ≤ c) (hcm : c ≤ maxLen) (hm : m = C.length) (hlen : n ≤ 1099511627776) (hlen' : m ≤ 1099511627776) (w : World) (hB : B ≤ w.heap.size) (hB' : B' ≤ w.heap.size) (hX : Ls enc 2 w B A D) (hY : Ls Sc.enc 3 w B' A' C) :
    Calls Try.prog 20 #[.slice A n c, .slice A' m c'] w fun e w' => ∃ v, e = .returned (.tuple #[v, .int .i64 (er (rt D && rc C))]) ∧ MkI w w' v (if rt D && rc C then app D C else []) := by
  have HX := Lib.hid hX
  have HY := Lib.hid hY
  have HN := Lib.hid hn
  have HN' := Lib.hid hm
  have HC := Lib.hid (rightList_any D A n c B hn (by omega) w hB hX)
  clear hn hm hX hY
  cases hx : rt D
  · rw [hx] at HC
    clear hx
    go_enter Try.func20, Try.ntmps20
    go_wp2_with (go_at_call 25; refine HC.out.mono ?_; rintro e w1 ⟨rfl, hb1⟩; have HB1 := Lib.hid hb1; clear hb1)
    go_ret2
    exact ⟨_, rfl, Mk.nil HB1.out⟩
  · have HR := Lib.hid hx
    rw [hx] at HC
    clear hx
    cases hy : rc C
    · go_enter Try.func20, Try.ntmps20
      go_wp2_with fail
      go_at_call 25
      refine HC.out.mono ?_
      rintro e w1 ⟨rfl, hb1⟩
      have HB1 := Lib.hid hb1
      clear hb1 HC
      go_wp2_with fail
      go_at_call 30
      refine (rightChanges_any C A' m c' B' HN'.out (by omega) w1 (Nat.le_trans hB' HB1.out.size) (HY.out.below (HB1.out.mono hB'))).mono ?_
      rintro e w2 ⟨rfl, hb2⟩
      have HB2 := Lib.hid (HB1.out.trans (hb2.mono HB1.out.size))
      clear hb2 HB1
      rw [hy]
      clear hy
      go_wp2
      go_ret2
      exact ⟨_, rfl, Mk.nil HB2.out⟩
    · go_enter Try.func20, Try.ntmps20
      go_wp2_with fail
      go_at_call 25
      refine HC.out.mono ?_
      rintro e w1 ⟨rfl, hb1⟩
      have HB1 := Lib.hid hb1
      clear hb1 HC
      go_wp2_with fail
      go_at_call 30
      refine (rightChanges_any C A' m c' B' HN'.out (by omega) w1 (Nat.le_trans hB' HB1.out.size) (HY.out.below (HB1.out.mono hB'))).mono ?_
      rintro e w2 ⟨rfl, hb2⟩
      have HB2 := Lib.hid (HB1.out.trans (hb2.mono HB1.out.size))
      clear hb2 HB1
      rw [hy]
      clear hy
      go_wp2_with fail
      go_at_call 32
      refine (lastOfEach_any C A' m c' B' HN'.out hlen' w2 (Nat.le_trans hB' HB2.out.size) (HY.out.below (HB2.out.mono hB'))).mono ?_
      rintro e w3 ⟨v, S, rfl, hs1, hs2, hs3, hM⟩
      obtain ⟨A2, c2, hv, hc2, hcm2, hL2⟩ := hM.ls Sc.enc_len
      have HM := Lib.hid (hM.since HB2.out)
      have HS := Lib.hid (And.intro hs1 hs2)
      have HL2 := Lib.hid hL2
      have hln : (lasts S).length ≤ 1099511627776 := by have := lasts_len S; omega
      clear hM hs1 hs2 hs3 hL2
      obtain ⟨m2, hm2⟩ : ∃ m2, m2 = (lasts S).length := ⟨_, rfl⟩
      rw [← hm2] at hv hln hc2
      have HM2 := Lib.hid hm2
      subst hv
      clear hm2
      go_wp2_with fail
      go_at_call 31
      refine (changed_any D (lasts S) A A2 n c m2 c2 B _ HN.out hc hcm HM2.out hlen hln (rt_iff.1 HR.out).1 (lasts_spec S HS.out.1).1 w3 (Nat.le_trans hB HM.out.2.size) (Nat.le_refl _) (HX.out.below (HM.out.2.mono hB)) HL2.out).mono ?_
      rintro e w4 ⟨v, rfl, hM⟩
      have HM3 := Lib.hid (show MkI w w4 v (app D C) from (app_lasts (rt_iff.1 HR.out).1 HS.out.1 HS.out.2) ▸ hM.since HM.out.2)
      clear hM
      go_wp2
      go_ret2
      exact ⟨_, rfl, HM3.out⟩
end Go.Proofs.Ytpchkmjpmlbbgaa.It
