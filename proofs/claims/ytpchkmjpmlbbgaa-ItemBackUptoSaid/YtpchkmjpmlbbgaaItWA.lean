/- The walks of the laws ItemBack and ItemTwice. -/
import Derived.Test.YtpchkmjpmlbbgaaItW
namespace Go.Proofs.Ytpchkmjpmlbbgaa.It
set_option linter.unusedVariables false
open Go.ChangeShapes Go.WideShapes Go.ChangeAt Go.RowKit
open Ar Rg St
open BigFrame
set_option maxRecDepth 100000 in
set_option maxHeartbeats 2000000 in
theorem itemBack_walk (w : World) (X : List Itm) (A : Option Addr) (n c : Nat) (Y : List Itm) (A' : Option Addr) (m c' : Nat) (hl : n ≤ 1048576) (hX : SlI w A n c X) (hl' : m ≤ 1048576) (hY : SlI w A' m c' Y) :
    Calls Try.prog 5 #[.slice A n c, .slice A' m c'] w fun e w' => e = .returned (.bool true) ∧ Below w.heap.size w w' := by
  have HX := Lib.hid hX
  have HY := Lib.hid hY
  have e4 : er false = 4 := rfl
  have e0 : er true = 0 := rfl
  clear hX hY
  cases hq : (rt X && rt Y)
  · have HQ := Lib.hid hq
    clear hq
    go_enter Try.func5, Try.ntmps5
    go_wp2_with fail
    go_at_call 16
    refine (lives_true _).mono ?_
    rintro e w1 ⟨rfl, hb1⟩
    have HB1 := Lib.hid hb1
    clear hb1
    go_wp2_with fail
    go_at_call 22
    refine (diffS (HX.out.below HB1.out) (HY.out.below HB1.out) (by omega) (by omega)).mono ?_
    rw [HQ.out]
    rintro e w2 ⟨A2, n2, c2, rfl, hs2, hb2⟩
    obtain rfl : n2 = 0 := hs2.1
    have HB2 := Lib.hid (HB1.out.trans (hb2.mono HB1.out.size))
    clear hb2 hs2
    go_wp2
    go_ret
    exact ⟨rfl, HB2.out⟩
  · have HQ := Lib.hid hq
    have hxy : rt X = true ∧ rt Y = true := by simpa using hq
    have HXY := Lib.hid hxy
    have HU := Lib.hid (up_dif X Y (rt_iff.1 hxy.1).1 (rt_iff.1 hxy.2).1)
    clear hq hxy
    go_enter Try.func5, Try.ntmps5
    go_wp2_with fail
    go_at_call 16
    refine (lives_true _).mono ?_
    rintro e w1 ⟨rfl, hb1⟩
    have HB1 := Lib.hid hb1
    clear hb1
    go_wp2_with fail
    go_at_call 22
    refine (diffS (HX.out.below HB1.out) (HY.out.below HB1.out) (by omega) (by omega)).mono ?_
    rw [HQ.out]
    rintro e w2 ⟨A2, n2, c2, rfl, hs2, hb2⟩
    have hs2 : SlC w2 A2 n2 c2 (dif X Y) := hs2
    have HS2 := Lib.hid hs2
    have hn2 : n2 ≤ 2097152 := by have h1 := hs2.1; have h2 := dif_len X Y; have h3 := HX.out.1; have h4 := HY.out.1; omega
    have HB2 := Lib.hid (HB1.out.trans (hb2.mono HB1.out.size))
    clear hb2 hs2 HB1
    go_wp2_with fail
    go_loopw [27] (fun v wr => ∃ i : Nat, i ≤ n2 ∧ v = .int .i64 i ∧ Hid (Below w2.heap.size w2 wr)) (fun v _ => n2 - (intOf v).toNat)
    case atStart => exact ⟨0, Nat.zero_le _, by go_num, Below.refl _ _⟩
    case round =>
      obtain ⟨i, hi, rfl, hbel⟩ := hrel
      have HBW := Lib.hid (HB2.out.trans ((Hid.out hbel).mono HB2.out.size))
      by_cases hlt : i < n2
      · obtain ⟨x, b, o, hx, hAe, hbs, hc0, hc1, hc2⟩ := (HS2.out.below (Hid.out hbel)).at_ hlt
        subst hAe
        by_cases hi0 : i = 0
        · subst hi0
          clear hx hc0 hc1 hc2
          go_wp2_with fail
          go_big_quiet (fail)
          have HB3 := Lib.hid (below_drewN (Hid.out hbel) nq)
          clear hbel HBW
          generalize World.drewN _ _ = W2 at *
          go_wp2
          exact ⟨⟨1, by omega, by go_num, HB3.out⟩, by simp [intOf] <;> omega⟩
        · obtain ⟨k, hk⟩ : ∃ k, i = k + 1 := ⟨i - 1, by omega⟩
          have hk1 : (i : Int) - 1 = (k : Int) := by omega
          have hk2 : decide ((0 : Int) < (i : Int)) = true := by rw [decide_eq_true_iff]; omega
          have hk3 : (k : Int) < (n2 : Int) := by omega
          obtain ⟨y, b2, o2, hy, hAe, hbs2, hd0, hd1, hd2⟩ := (HS2.out.below (Hid.out hbel)).at_ (show k < n2 by omega)
          cases hAe
          subst hk
          have hlt2 : Op.bytesLess y.k.toList x.k.toList = true := by
            refine bl_of ?_
            have hd := drop_atC hy
            rw [drop_atC hx] at hd
            have hu : UpK Sc.key (y :: x :: (dif X Y).drop (k + 1 + 1)) := by rw [← hd]; exact HU.out.sub (List.drop_sublist _ _)
            exact (UpK.cons.1 hu).1 x List.mem_cons_self
          clear hx hy
          go_wp2_with fail
          go_big_quiet (fail)
          have HB3 := Lib.hid (below_drewN (Hid.out hbel) nq)
          clear hbel HBW
          generalize World.drewN _ _ = W2 at *
          go_wp2
          exact ⟨⟨k + 2, by omega, by go_num, HB3.out⟩, by simp [intOf] <;> omega⟩
      · have HS := Lib.hid (HS2.out.below (Hid.out hbel))
        go_wp2_with fail
        go_at_call 20
        refine (applyS (HX.out.below HBW.out) HS.out (by omega) (by omega)).mono ?_
        rw [HXY.out.1, rc_dif HXY.out.1 HXY.out.2, app_dif (rt_iff.1 HXY.out.1).1 (rt_iff.1 HXY.out.2).1]
        rintro e w3 ⟨A3, n3, c3, he, hs3, hb3⟩
        have he' : e = .returned (.tuple #[.slice A3 n3 c3, .int .i64 (er true)]) := he
        subst he'
        have HS3 := Lib.hid (show SlI w3 A3 n3 c3 Y from hs3)
        have HB3 := Lib.hid (HBW.out.trans (hb3.mono HBW.out.size))
        clear hb3 hs3 HBW he hbel
        go_wp2_with fail
        go_at_call 22
        refine (diffS (HX.out.below HB3.out) (HX.out.below HB3.out) (by omega) (by omega)).mono ?_
        rw [HXY.out.1, dif_self (rt_iff.1 HXY.out.1).1]
        rintro e w4 ⟨A4, n4, c4, he, hs4, hb4⟩
        have he' : e = .returned (.tuple #[.slice A4 n4 c4, .int .i64 (er true)]) := he
        subst he'
        obtain rfl : n4 = 0 := hs4.1
        have HS3' := Lib.hid (HS3.out.below hb4)
        have HB4 := Lib.hid (HB3.out.trans (hb4.mono HB3.out.size))
        clear hb4 hs4 HB3 he HS3
        go_wp2_with (go_at_call 17; refine (sameS (HY.out.below HB4.out) HS3'.out (by omega)).mono ?_; rw [sm_iff.2 rfl]; rintro e w5 ⟨rfl, hb5⟩; have HB5 := Lib.hid (HB4.out.trans (hb5.mono HB4.out.size)); clear hb5)
        go_ret
        exact ⟨rfl, HB5.out⟩
end Go.Proofs.Ytpchkmjpmlbbgaa.It
