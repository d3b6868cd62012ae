/- The walk of the law DevKept. -/
import Derived.Test.YtjkapmghifglcaaDoorDwG
namespace Go.Proofs.YtjkapmghifglcaaDoor.Dv
set_option linter.unusedVariables false
open Go.ChangeShapes Go.WideShapes Go.ChangeAt Go.RowKit
open Ar Rg St
open BigFrame
theorem kept_all {N : Nat} {D W : List Bk} {dn : Bool} {fu : Int} (h : De.rt ⟨N, D, W, dn, fu⟩ = true) : crX ⟨N, D, W, dn, fu⟩ (kp (List.replicate W.length true)) = ⟨N, app D W, [], false, -1⟩ ∧ crX ⟨N, D, W, dn, fu⟩ (kp []) = ⟨N, D, [], false, -1⟩ ∧ flX ⟨N, D, W, false, -1⟩ = ⟨N, app D W, [], false, -1⟩ ∧ flO ⟨N, D, W, false, -1⟩ = 0 := by
  have h2 : De.rt ⟨N, D, W, false, -1⟩ = true := h
  have h3 : flO ⟨N, D, W, false, -1⟩ = 0 := by unfold flO; rw [h2]; rfl
  refine ⟨?_, ?_, ?_, h3⟩
  · rw [cr_at _ h]; dsimp only; rw [kpt_full]
  · rw [cr_at _ h]; dsimp only; rw [kpt_nil]; rfl
  · rw [fl_at h3]; rfl
theorem slK_nil (w : World) : SlK w none 0 [] := ⟨rfl, fun j hj => absurd hj (Nat.not_lt_zero _)⟩
set_option maxRecDepth 100000 in
set_option maxHeartbeats 4000000 in
theorem devKept_walk (w : World) (x : De) (A : Option Addr) (n c : Nat) (A' : Option Addr) (m c' : Nat) (h1 : SlB w A n c x.D) (h2 : SlB w A' m c' x.W) (ln : n ≤ 281474976710656) (lm : m ≤ 281474976710656) (lo : -9223372036854775808 ≤ x.fu) (hi : x.fu ≤ 9223372036854775807) (lm2 : m ≤ 5864062014634) :
    Calls Tryd.prog 11 #[.agg #[.int .u32 x.N, .slice A n c, .slice A' m c', .bool x.dn, .int .i64 x.fu]] w fun e w' => e = .returned (.bool true) ∧ Below w.heap.size w w' := by
  obtain ⟨N, D, W, dn, fu⟩ := x
  dsimp only at h1 h2 lo hi ⊢
  obtain ⟨y, hy⟩ : ∃ y, crX (⟨N, D, W, dn, fu⟩ : De) (kp (List.replicate W.length true)) = y := ⟨_, rfl⟩
  have Ey := Lib.hid hy
  obtain ⟨o, ho⟩ : ∃ o, chO (⟨N, D, W, dn, fu⟩ : De) = o := ⟨_, rfl⟩
  have Eo := Lib.hid ho
  by_cases ho : o = 0
  · subst ho
    have HK := Lib.hid (kept_all (chO_zero.1 Eo.out))
    clear hy ho
    obtain ⟨k1, k2⟩ := DV.boxed (x := (⟨N, D, W, dn, fu⟩ : De)) h1 h2 ln lm lo hi
    have Hd0 := Lib.hid k1
    have HB0 := Lib.hid k2
    clear k1 k2
    go_enter Tryd.func11, Tryd.ntmps11
    go_wp2_with fail
    generalize w.alloc _ = w0 at *
    go_at_call 20
    refine (lives_true w0).mono ?_
    rintro e w1 ⟨rfl, hb⟩
    have Hdw1 := Lib.hid (Hd0.out.below hb)
    have HBw1 := Lib.hid (HB0.out.trans (hb.mono HB0.out.size))
    clear hb
    have qd0 := Hdw1.out.box.c0
    have qd1 := Hdw1.out.box.c1
    have qd2 := Hdw1.out.box.c2
    have qd3 := Hdw1.out.box.c3
    have qd4 := Hdw1.out.box.c4
    go_wp2_with fail
    clear qd0 qd1 qd2 qd3 qd4
    have HN2 := Lib.hid (show m = W.length from Hdw1.out.two.1)
    go_loopw [3, 17] (fun va v wr => ∃ i : Nat, i ≤ m ∧ v = .int .i64 i ∧ Hid (MkK w1 wr va (List.replicate i true))) (fun _ v _ => m - (intOf v).toNat)
    case atStart => exact ⟨0, Nat.zero_le _, by go_num, Mk.nil (Below.refl _ _)⟩
    case round =>
      obtain ⟨i, hi, rfl, hmk⟩ := hrel
      by_cases hlt : i < m
      · have HM := Lib.hid (show MkK w1 (wr.alloc (.cells #[.bool true] 4)) _ (List.replicate i true) from (Hid.out hmk).alloc _)
        have HLn := Lib.hid (Ls.new (enc := encK) (k := 1) wr true 4 (wr.heap.size + 1) (Nat.lt_succ_self _))
        go_wp2_with (at_builtin; refine catK HM.out [true] _ 1 1 rfl HLn.out (by simp only [List.length_replicate]; omega) rfl _ _ rfl rfl rfl ?_; intro v3 w3 hM3 hG3; have HM3 := Lib.hid (show MkK w1 w3 v3 (List.replicate (i + 1) true) by rw [List.replicate_succ']; exact hM3); clear hM3 hG3)
        exact ⟨⟨i + 1, by omega, by go_num, HM3.out⟩, by simp [intOf] <;> omega⟩
      · have him : i = m := by omega
        subst him
        obtain ⟨AK, nk, ck, rfl, hsk⟩ := SlK.of_mk (Hid.out hmk)
        have HSK := Lib.hid (show SlK wr AK nk (List.replicate W.length true) by rw [← HN2.out]; exact hsk)
        have hbw := (Hid.out hmk).2
        have Hdwr := Lib.hid (Hdw1.out.below hbw)
        have HBwr := Lib.hid (HBw1.out.trans (hbw.mono HBw1.out.size))
        clear hmk hbw hsk
        have qd0 := Hdwr.out.box.c0
        have qd1 := Hdwr.out.box.c1
        have qd2 := Hdwr.out.box.c2
        have qd3 := Hdwr.out.box.c3
        have qd4 := Hdwr.out.box.c4
        go_wp2_with fail
        go_at_call 24
        refine (crashS (List.replicate W.length true) HSK.out Hdwr.out).mono ?_
        rw [HK.out.1, Eo.out]
        rintro e w2 ⟨Ar, nr, cr, Br, mr, dr, rfl, y1r, y2r, y3r, y4r, y5r, y6r, hb⟩
        have Y1r := Lib.hid y1r
        have Y2r := Lib.hid y2r
        have Hdw2 := Lib.hid (Hdwr.out.below hb)
        have HBw2 := Lib.hid (HBwr.out.trans (hb.mono HBwr.out.size))
        clear qd0 qd1 qd2 qd3 qd4
        clear hb y1r y2r
        go_wp2_with (refine wpList_new (x := (⟨N, app D W, [], false, -1⟩ : De)) 4 27 rfl rfl rfl rfl Y1r.out Y2r.out y3r y4r y5r y6r ?_; intro w3 hb hd; have NEda := Lib.hid (Nat.ne_of_lt Hdw2.out.lt); have NEad := Lib.hid (Nat.ne_of_gt Hdw2.out.lt); have Hdw3 := Lib.hid (Hdw2.out.below hb); have HBw3 := Lib.hid (HBw2.out.trans (hb.mono HBw2.out.size)); have Haw3 := Lib.hid hd; clear hb hd; have qd0 := Hdw3.out.box.c0; have qd1 := Hdw3.out.box.c1; have qd2 := Hdw3.out.box.c2; have qd3 := Hdw3.out.box.c3; have qd4 := Hdw3.out.box.c4)
        go_at_call 24
        refine (crashS [] (slK_nil _) Hdw3.out).mono ?_
        rw [HK.out.2.1, Eo.out]
        rintro e w4 ⟨As, ns, cs, Bs, ms, ds, rfl, y1s, y2s, y3s, y4s, y5s, y6s, hb⟩
        have Y1s := Lib.hid y1s
        have Y2s := Lib.hid y2s
        have Hdw4 := Lib.hid (Hdw3.out.below hb)
        have Haw4 := Lib.hid (Haw3.out.below hb)
        have HBw4 := Lib.hid (HBw3.out.trans (hb.mono HBw3.out.size))
        clear qd0 qd1 qd2 qd3 qd4
        clear hb y1s y2s
        go_wp2_with (first | (refine wpList_new (x := (⟨N, D, W, dn, fu⟩ : De)) 8 36 rfl rfl rfl rfl Hdw5.out.one Hdw5.out.two Hdw5.out.ln Hdw5.out.lm Hdw5.out.lo Hdw5.out.hi ?_; intro w6 hb hd; have NEdx := Lib.hid (Nat.ne_of_lt Hdw5.out.lt); have NExd := Lib.hid (Nat.ne_of_gt Hdw5.out.lt); have NEax := Lib.hid (Nat.ne_of_lt Haw5.out.lt); have NExa := Lib.hid (Nat.ne_of_gt Haw5.out.lt); have NEbx := Lib.hid (Nat.ne_of_lt Hbw5.out.lt); have NExb := Lib.hid (Nat.ne_of_gt Hbw5.out.lt); have Hdw6 := Lib.hid (Hdw5.out.below hb); have Haw6 := Lib.hid (Haw5.out.below hb); have Hbw6 := Lib.hid (Hbw5.out.below hb); have HBw6 := Lib.hid (HBw5.out.trans (hb.mono HBw5.out.size)); have Hxw6 := Lib.hid hd; clear qd0 qd1 qd2 qd3 qd4; clear hb hd; have qx0 := Hxw6.out.box.c0; have qx1 := Hxw6.out.box.c1; have qx2 := Hxw6.out.box.c2; have qx3 := Hxw6.out.box.c3; have qx4 := Hxw6.out.box.c4; have f3 := Hxw6.out.box.fr 3; have f4 := Hxw6.out.box.fr 4) | (refine wpList_new (x := (⟨N, D, [], false, -1⟩ : De)) 6 34 rfl rfl rfl rfl Y1s.out Y2s.out y3s y4s y5s y6s ?_; intro w5 hb hd; have NEdb := Lib.hid (Nat.ne_of_lt Hdw4.out.lt); have NEbd := Lib.hid (Nat.ne_of_gt Hdw4.out.lt); have NEab := Lib.hid (Nat.ne_of_lt Haw4.out.lt); have NEba := Lib.hid (Nat.ne_of_gt Haw4.out.lt); have Hdw5 := Lib.hid (Hdw4.out.below hb); have Haw5 := Lib.hid (Haw4.out.below hb); have HBw5 := Lib.hid (HBw4.out.trans (hb.mono HBw4.out.size)); have Hbw5 := Lib.hid hd; clear hb hd; have qd0 := Hdw5.out.box.c0; have qd1 := Hdw5.out.box.c1; have qd2 := Hdw5.out.box.c2; have qd3 := Hdw5.out.box.c3; have qd4 := Hdw5.out.box.c4))
        clear f3 f4
        clear qx0 qx1 qx2 qx3 qx4
        have hg : w6.grownBy (w6.setCell ⟨w5.heap.size, 3, none⟩ (.bool false)) (some _) := grown_cell _ _ _ _
        have Hdw7 := Lib.hid (Hdw6.out.aside Hxw6.out NEdx.out hg)
        have Haw7 := Lib.hid (Haw6.out.aside Hxw6.out NEax.out hg)
        have Hbw7 := Lib.hid (Hbw6.out.aside Hxw6.out NEbx.out hg)
        have HBw7 := Lib.hid (below_of_grown2 HBw6.out hg HBw5.out.size HBw6.out.size)
        have Hxw7 := Lib.hid (Hxw6.out.down false)
        clear hg
        generalize w6.setCell ⟨w5.heap.size, 3, none⟩ (.bool false) = w7 at *
        have hg : w7.grownBy (w7.setCell ⟨w5.heap.size, 4, none⟩ (.int .i64 (-1))) (some _) := grown_cell _ _ _ _
        have Hdw8 := Lib.hid (Hdw7.out.aside Hxw7.out NEdx.out hg)
        have Haw8 := Lib.hid (Haw7.out.aside Hxw7.out NEax.out hg)
        have Hbw8 := Lib.hid (Hbw7.out.aside Hxw7.out NEbx.out hg)
        have HBw8 := Lib.hid (below_of_grown2 HBw7.out hg HBw5.out.size HBw7.out.size)
        have Hxw8 := Lib.hid (Hxw7.out.fuse (-1) (by decide) (by decide))
        clear hg
        generalize w7.setCell ⟨w5.heap.size, 4, none⟩ (.int .i64 (-1)) = w8 at *
        have qx0 := Hxw8.out.box.c0
        have qx1 := Hxw8.out.box.c1
        have qx2 := Hxw8.out.box.c2
        have qx3 := Hxw8.out.box.c3
        have qx4 := Hxw8.out.box.c4
        go_at_call 16
        refine (flushS Hxw8.out).mono ?_
        rw [HK.out.2.2.1, HK.out.2.2.2]
        rintro e w9 ⟨Au, nu, cu, Bu, mu, du, rfl, y1u, y2u, y3u, y4u, y5u, y6u, hb⟩
        have Y1u := Lib.hid y1u
        have Y2u := Lib.hid y2u
        have Hdw9 := Lib.hid (Hdw8.out.below hb)
        have Haw9 := Lib.hid (Haw8.out.below hb)
        have Hbw9 := Lib.hid (Hbw8.out.below hb)
        have Hxw9 := Lib.hid (Hxw8.out.below hb)
        have HBw9 := Lib.hid (HBw8.out.trans (hb.mono HBw8.out.size))
        clear qx0 qx1 qx2 qx3 qx4
        clear hb y1u y2u
        go_wp2_with (first | (refine wpList_new (x := (⟨N, D, W, false, -1⟩ : De)) 11 44 rfl rfl rfl rfl Hxw10.out.one Hxw10.out.two Hxw10.out.ln Hxw10.out.lm Hxw10.out.lo Hxw10.out.hi ?_; intro w11 hb hd; have NEdz := Lib.hid (Nat.ne_of_lt Hdw10.out.lt); have NEzd := Lib.hid (Nat.ne_of_gt Hdw10.out.lt); have NEaz := Lib.hid (Nat.ne_of_lt Haw10.out.lt); have NEza := Lib.hid (Nat.ne_of_gt Haw10.out.lt); have NEbz := Lib.hid (Nat.ne_of_lt Hbw10.out.lt); have NEzb := Lib.hid (Nat.ne_of_gt Hbw10.out.lt); have NExz := Lib.hid (Nat.ne_of_lt Hxw10.out.lt); have NEzx := Lib.hid (Nat.ne_of_gt Hxw10.out.lt); have NEcz := Lib.hid (Nat.ne_of_lt Hcw10.out.lt); have NEzc := Lib.hid (Nat.ne_of_gt Hcw10.out.lt); have Hdw11 := Lib.hid (Hdw10.out.below hb); have Haw11 := Lib.hid (Haw10.out.below hb); have Hbw11 := Lib.hid (Hbw10.out.below hb); have Hxw11 := Lib.hid (Hxw10.out.below hb); have Hcw11 := Lib.hid (Hcw10.out.below hb); have HBw11 := Lib.hid (HBw10.out.trans (hb.mono HBw10.out.size)); have Hzw11 := Lib.hid hd; clear qx0 qx1 qx2 qx3 qx4; clear hb hd; have qz0 := Hzw11.out.box.c0; have qz1 := Hzw11.out.box.c1; have qz2 := Hzw11.out.box.c2; have qz3 := Hzw11.out.box.c3; have qz4 := Hzw11.out.box.c4; have f2 := Hzw11.out.box.fr 2; have hgz := grown_cell w11 w10.heap.size 2 (.slice none 0 0); have ga0 := (Haw11.out.aside Hzw11.out NEaz.out hgz).box.c0; have ga1 := (Haw11.out.aside Hzw11.out NEaz.out hgz).box.c1; have ga2 := (Haw11.out.aside Hzw11.out NEaz.out hgz).box.c2; have ga3 := (Haw11.out.aside Hzw11.out NEaz.out hgz).box.c3; have ga4 := (Haw11.out.aside Hzw11.out NEaz.out hgz).box.c4; have gc0 := (Hcw11.out.aside Hzw11.out NEcz.out hgz).box.c0; have gc1 := (Hcw11.out.aside Hzw11.out NEcz.out hgz).box.c1; have gc2 := (Hcw11.out.aside Hzw11.out NEcz.out hgz).box.c2; have gc3 := (Hcw11.out.aside Hzw11.out NEcz.out hgz).box.c3; have gc4 := (Hcw11.out.aside Hzw11.out NEcz.out hgz).box.c4) | (refine wpList_new (x := (⟨N, app D W, [], false, -1⟩ : De)) 9 42 rfl rfl rfl rfl Y1u.out Y2u.out y3u y4u y5u y6u ?_; intro w10 hb hd; have NEdc := Lib.hid (Nat.ne_of_lt Hdw9.out.lt); have NEcd := Lib.hid (Nat.ne_of_gt Hdw9.out.lt); have NEac := Lib.hid (Nat.ne_of_lt Haw9.out.lt); have NEca := Lib.hid (Nat.ne_of_gt Haw9.out.lt); have NEbc := Lib.hid (Nat.ne_of_lt Hbw9.out.lt); have NEcb := Lib.hid (Nat.ne_of_gt Hbw9.out.lt); have NExc := Lib.hid (Nat.ne_of_lt Hxw9.out.lt); have NEcx := Lib.hid (Nat.ne_of_gt Hxw9.out.lt); have Hdw10 := Lib.hid (Hdw9.out.below hb); have Haw10 := Lib.hid (Haw9.out.below hb); have Hbw10 := Lib.hid (Hbw9.out.below hb); have Hxw10 := Lib.hid (Hxw9.out.below hb); have HBw10 := Lib.hid (HBw9.out.trans (hb.mono HBw9.out.size)); have Hcw10 := Lib.hid hd; clear hb hd; have qx0 := Hxw10.out.box.c0; have qx1 := Hxw10.out.box.c1; have qx2 := Hxw10.out.box.c2; have qx3 := Hxw10.out.box.c3; have qx4 := Hxw10.out.box.c4))
        clear f2 hgz ga0 ga1 ga2 ga3 ga4 gc0 gc1 gc2 gc3 gc4
        clear qz0 qz1 qz2 qz3 qz4
        have hg : w11.grownBy (w11.setCell ⟨w10.heap.size, 2, none⟩ (.slice none 0 0)) (some _) := grown_cell _ _ _ _
        have Hdw12 := Lib.hid (Hdw11.out.aside Hzw11.out NEdz.out hg)
        have Haw12 := Lib.hid (Haw11.out.aside Hzw11.out NEaz.out hg)
        have Hbw12 := Lib.hid (Hbw11.out.aside Hzw11.out NEbz.out hg)
        have Hxw12 := Lib.hid (Hxw11.out.aside Hzw11.out NExz.out hg)
        have Hcw12 := Lib.hid (Hcw11.out.aside Hzw11.out NEcz.out hg)
        have HBw12 := Lib.hid (below_of_grown2 HBw11.out hg HBw10.out.size HBw11.out.size)
        have Hzw12 := Lib.hid (Hzw11.out.nowait)
        clear hg
        generalize w11.setCell ⟨w10.heap.size, 2, none⟩ (.slice none 0 0) = w12 at *
        go_at_call 21
        refine (sameS Haw12.out Hcw12.out).mono ?_
        rintro e w13 ⟨rfl, hb⟩
        have Hdw13 := Lib.hid (Hdw12.out.below hb)
        have Haw13 := Lib.hid (Haw12.out.below hb)
        have Hbw13 := Lib.hid (Hbw12.out.below hb)
        have Hxw13 := Lib.hid (Hxw12.out.below hb)
        have Hcw13 := Lib.hid (Hcw12.out.below hb)
        have Hzw13 := Lib.hid (Hzw12.out.below hb)
        have HBw13 := Lib.hid (HBw12.out.trans (hb.mono HBw12.out.size))
        clear hb
        have qb0 := Hbw13.out.box.c0
        have qb1 := Hbw13.out.box.c1
        have qb2 := Hbw13.out.box.c2
        have qb3 := Hbw13.out.box.c3
        have qb4 := Hbw13.out.box.c4
        have qz0 := Hzw13.out.box.c0
        have qz1 := Hzw13.out.box.c1
        have qz2 := Hzw13.out.box.c2
        have qz3 := Hzw13.out.box.c3
        have qz4 := Hzw13.out.box.c4
        go_wp2_with fail
        go_at_call 21
        refine (sameS Hbw13.out Hzw13.out).mono ?_
        rintro e w14 ⟨rfl, hb⟩
        have Hdw14 := Lib.hid (Hdw13.out.below hb)
        have Haw14 := Lib.hid (Haw13.out.below hb)
        have Hbw14 := Lib.hid (Hbw13.out.below hb)
        have Hxw14 := Lib.hid (Hxw13.out.below hb)
        have Hcw14 := Lib.hid (Hcw13.out.below hb)
        have Hzw14 := Lib.hid (Hzw13.out.below hb)
        have HBw14 := Lib.hid (HBw13.out.trans (hb.mono HBw13.out.size))
        clear qb0 qb1 qb2 qb3 qb4 qz0 qz1 qz2 qz3 qz4
        clear hb
        go_wp2_with fail
        go_ret
        exact ⟨rfl, HBw14.out⟩
  · have hq : ¬ o = 0 := ho
    clear hy ho
    obtain ⟨k1, k2⟩ := DV.boxed (x := (⟨N, D, W, dn, fu⟩ : De)) h1 h2 ln lm lo hi
    have Hd0 := Lib.hid k1
    have HB0 := Lib.hid k2
    clear k1 k2
    go_enter Tryd.func11, Tryd.ntmps11
    go_wp2_with fail
    generalize w.alloc _ = w0 at *
    go_at_call 20
    refine (lives_true w0).mono ?_
    rintro e w1 ⟨rfl, hb⟩
    have Hdw1 := Lib.hid (Hd0.out.below hb)
    have HBw1 := Lib.hid (HB0.out.trans (hb.mono HB0.out.size))
    clear hb
    have qd0 := Hdw1.out.box.c0
    have qd1 := Hdw1.out.box.c1
    have qd2 := Hdw1.out.box.c2
    have qd3 := Hdw1.out.box.c3
    have qd4 := Hdw1.out.box.c4
    go_wp2_with fail
    clear qd0 qd1 qd2 qd3 qd4
    have HN2 := Lib.hid (show m = W.length from Hdw1.out.two.1)
    go_loopw [3, 17] (fun va v wr => ∃ i : Nat, i ≤ m ∧ v = .int .i64 i ∧ Hid (MkK w1 wr va (List.replicate i true))) (fun _ v _ => m - (intOf v).toNat)
    case atStart => exact ⟨0, Nat.zero_le _, by go_num, Mk.nil (Below.refl _ _)⟩
    case round =>
      obtain ⟨i, hi, rfl, hmk⟩ := hrel
      by_cases hlt : i < m
      · have HM := Lib.hid (show MkK w1 (wr.alloc (.cells #[.bool true] 4)) _ (List.replicate i true) from (Hid.out hmk).alloc _)
        have HLn := Lib.hid (Ls.new (enc := encK) (k := 1) wr true 4 (wr.heap.size + 1) (Nat.lt_succ_self _))
        go_wp2_with (at_builtin; refine catK HM.out [true] _ 1 1 rfl HLn.out (by simp only [List.length_replicate]; omega) rfl _ _ rfl rfl rfl ?_; intro v3 w3 hM3 hG3; have HM3 := Lib.hid (show MkK w1 w3 v3 (List.replicate (i + 1) true) by rw [List.replicate_succ']; exact hM3); clear hM3 hG3)
        exact ⟨⟨i + 1, by omega, by go_num, HM3.out⟩, by simp [intOf] <;> omega⟩
      · have him : i = m := by omega
        subst him
        obtain ⟨AK, nk, ck, rfl, hsk⟩ := SlK.of_mk (Hid.out hmk)
        have HSK := Lib.hid (show SlK wr AK nk (List.replicate W.length true) by rw [← HN2.out]; exact hsk)
        have hbw := (Hid.out hmk).2
        have Hdwr := Lib.hid (Hdw1.out.below hbw)
        have HBwr := Lib.hid (HBw1.out.trans (hbw.mono HBw1.out.size))
        clear hmk hbw hsk
        have qd0 := Hdwr.out.box.c0
        have qd1 := Hdwr.out.box.c1
        have qd2 := Hdwr.out.box.c2
        have qd3 := Hdwr.out.box.c3
        have qd4 := Hdwr.out.box.c4
        go_wp2_with fail
        go_at_call 24
        refine (crashS (List.replicate W.length true) HSK.out Hdwr.out).mono ?_
        rw [Ey.out, Eo.out]
        rintro e w2 ⟨Ar, nr, cr, Br, mr, dr, rfl, y1r, y2r, y3r, y4r, y5r, y6r, hb⟩
        have Y1r := Lib.hid y1r
        have Y2r := Lib.hid y2r
        have Hdw2 := Lib.hid (Hdwr.out.below hb)
        have HBw2 := Lib.hid (HBwr.out.trans (hb.mono HBwr.out.size))
        clear qd0 qd1 qd2 qd3 qd4
        clear hb y1r y2r
        go_wp2_with (refine wpList_new (x := y) 4 27 rfl rfl rfl rfl Y1r.out Y2r.out y3r y4r y5r y6r ?_; intro w3 hb hd; have NEda := Lib.hid (Nat.ne_of_lt Hdw2.out.lt); have NEad := Lib.hid (Nat.ne_of_gt Hdw2.out.lt); have Hdw3 := Lib.hid (Hdw2.out.below hb); have HBw3 := Lib.hid (HBw2.out.trans (hb.mono HBw2.out.size)); have Haw3 := Lib.hid hd; clear hb hd)
        go_ret
        exact ⟨rfl, HBw3.out⟩
end Go.Proofs.YtjkapmghifglcaaDoor.Dv
