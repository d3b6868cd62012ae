/- The walk of the law DevAgain. -/
import Derived.Test.YtjkapmghifglcaaDoorDwE
namespace Go.Proofs.YtjkapmghifglcaaDoor.Dv
set_option linter.unusedVariables false
open Go.ChangeShapes Go.WideShapes Go.ChangeAt Go.RowKit
open Ar Rg St
open BigFrame
set_option maxRecDepth 100000 in
set_option maxHeartbeats 2000000 in
theorem devAgain_walk (w : World) (x : De) (A : Option Addr) (n c : Nat) (A' : Option Addr) (m c' : Nat) (h1 : SlB w A n c x.D) (h2 : SlB w A' m c' x.W) (ln : n ≤ 281474976710656) (lm : m ≤ 281474976710656) (lo : -9223372036854775808 ≤ x.fu) (hi : x.fu ≤ 9223372036854775807) (num : Nat) :
    Calls Tryd.prog 8 #[.agg #[.int .u32 x.N, .slice A n c, .slice A' m c', .bool x.dn, .int .i64 x.fu], .int .u32 num] w fun e w' => e = .returned (.bool true) ∧ Below w.heap.size w w' := by
  obtain ⟨y, hy⟩ : ∃ y, flX (⟨x.N, x.D, x.W, x.dn, -1⟩ : De) = y := ⟨_, rfl⟩
  have Ey := Lib.hid hy
  obtain ⟨o, ho⟩ : ∃ o, flO (⟨x.N, x.D, x.W, x.dn, -1⟩ : De) = o := ⟨_, rfl⟩
  have Eo := Lib.hid ho
  by_cases ho : o = 0
  · subst ho
    have HA := Lib.hid (fl_again Eo.out rfl)
    have HW := Lib.hid (show y.W = [] by rw [← Ey.out, fl_at Eo.out])
    clear hy ho
    obtain ⟨k1, k2⟩ := DV.boxed h1 h2 ln lm lo hi
    have Hd0 := Lib.hid k1
    have HB0 := Lib.hid k2
    clear k1 k2
    go_enter Tryd.func8, Tryd.ntmps8
    go_wp2_with fail
    generalize w.alloc _ = w0 at *
    go_at_call 20
    refine (lives_true w0).mono ?_
    rintro e w1 ⟨rfl, hb⟩
    have Hdw1 := Lib.hid (Hd0.out.below hb)
    have HBw1 := Lib.hid (HB0.out.trans (hb.mono HB0.out.size))
    clear hb
    have qd0 := Hdw1.out.box.c0
    have qd1 := Hdw1.out.box.c1
    have qd2 := Hdw1.out.box.c2
    have qd3 := Hdw1.out.box.c3
    have qd4 := Hdw1.out.box.c4
    have qdf := Hdw1.out.box.fr 4
    go_wp2_with fail
    have Hdx := Lib.hid (Hdw1.out.fuse (-1) (by decide) (by decide))
    have HBx := Lib.hid (HBw1.out.setCell (p := ⟨w.heap.size, 4, none⟩) (Nat.le_refl _) (.int .i64 (-1)))
    clear qd0 qd1 qd2 qd3 qd4 qdf
    generalize w1.setCell _ _ = wx at *
    have qd0 := Hdx.out.box.c0
    have qd1 := Hdx.out.box.c1
    have qd2 := Hdx.out.box.c2
    have qd3 := Hdx.out.box.c3
    have qd4 := Hdx.out.box.c4
    go_at_call 18
    refine (readS num Hdx.out).mono ?_
    rintro e w2 ⟨rfl, hb⟩
    have Hdw2 := Lib.hid (Hdx.out.below hb)
    have HBw2 := Lib.hid (HBx.out.trans (hb.mono HBx.out.size))
    clear qd0 qd1 qd2 qd3 qd4
    clear hb
    have qd0 := Hdw2.out.box.c0
    have qd1 := Hdw2.out.box.c1
    have qd2 := Hdw2.out.box.c2
    have qd3 := Hdw2.out.box.c3
    have qd4 := Hdw2.out.box.c4
    go_wp2_with fail
    go_at_call 16
    refine (flushS Hdw2.out).mono ?_
    rw [Ey.out, Eo.out]
    rintro e w3 ⟨Ar, nr, cr, Br, mr, dr, rfl, y1r, y2r, y3r, y4r, y5r, y6r, hb⟩
    have Y1r := Lib.hid y1r
    have Y2r := Lib.hid y2r
    have Hdw3 := Lib.hid (Hdw2.out.below hb)
    have HBw3 := Lib.hid (HBw2.out.trans (hb.mono HBw2.out.size))
    clear qd0 qd1 qd2 qd3 qd4
    clear hb y1r y2r
    go_wp2_with (refine wpList_new (x := y) 7 25 rfl rfl rfl rfl Y1r.out Y2r.out y3r y4r y5r y6r ?_; intro w4 hb hd; have Hdw4 := Lib.hid (Hdw3.out.below hb); have HBw4 := Lib.hid (HBw3.out.trans (hb.mono HBw3.out.size)); have Hew4 := Lib.hid hd; clear hb hd; have qe0 := Hew4.out.box.c0; have qe1 := Hew4.out.box.c1; have qe2 := Hew4.out.box.c2; have qe3 := Hew4.out.box.c3; have qe4 := Hew4.out.box.c4)
    go_at_call 18
    refine (readS num Hew4.out).mono ?_
    rw [show rdO y num = rdO (⟨x.N, x.D, x.W, x.dn, -1⟩ : De) num by rw [← Ey.out]; exact fl_rdO Eo.out num, show rdX y num = rdX (⟨x.N, x.D, x.W, x.dn, -1⟩ : De) num by rw [← Ey.out]; exact fl_rdX Eo.out num]
    rintro e w5 ⟨rfl, hb⟩
    have Hdw5 := Lib.hid (Hdw4.out.below hb)
    have Hew5 := Lib.hid (Hew4.out.below hb)
    have HBw5 := Lib.hid (HBw4.out.trans (hb.mono HBw4.out.size))
    clear qe0 qe1 qe2 qe3 qe4
    clear hb
    have qe0 := Hew5.out.box.c0
    have qe1 := Hew5.out.box.c1
    have qe2 := Hew5.out.box.c2
    have qe3 := Hew5.out.box.c3
    have qe4 := Hew5.out.box.c4
    go_wp2_with fail
    go_at_call 16
    refine (flushS Hew5.out).mono ?_
    rw [show flX y = y by rw [← Ey.out]; exact HA.out.2, show flO y = 0 by rw [← Ey.out]; exact HA.out.1]
    rintro e w6 ⟨As, ns, cs, Bs, ms, ds, rfl, y1s, y2s, y3s, y4s, y5s, y6s, hb⟩
    have Y1s := Lib.hid y1s
    have Y2s := Lib.hid y2s
    have Hdw6 := Lib.hid (Hdw5.out.below hb)
    have Hew6 := Lib.hid (Hew5.out.below hb)
    have HBw6 := Lib.hid (HBw5.out.trans (hb.mono HBw5.out.size))
    clear qe0 qe1 qe2 qe3 qe4
    clear hb y1s y2s
    have qe0 := Hew6.out.box.c0
    have qe1 := Hew6.out.box.c1
    have qe2 := Hew6.out.box.c2
    have qe3 := Hew6.out.box.c3
    have qe4 := Hew6.out.box.c4
    go_wp2_with (refine wpList_new (x := y) 11 38 rfl rfl rfl rfl Y1s.out Y2s.out y3s y4s y5s y6s ?_; intro w7 hb hd; have Hdw7 := Lib.hid (Hdw6.out.below hb); have Hew7 := Lib.hid (Hew6.out.below hb); have HBw7 := Lib.hid (HBw6.out.trans (hb.mono HBw6.out.size)); have Hfw7 := Lib.hid hd; clear qe0 qe1 qe2 qe3 qe4; clear hb hd; have qe0 := Hew7.out.box.c0; have qe1 := Hew7.out.box.c1; have qe2 := Hew7.out.box.c2; have qe3 := Hew7.out.box.c3; have qe4 := Hew7.out.box.c4; have qf0 := Hfw7.out.box.c0; have qf1 := Hfw7.out.box.c1; have qf2 := Hfw7.out.box.c2; have qf3 := Hfw7.out.box.c3; have qf4 := Hfw7.out.box.c4)
    go_at_call 21
    refine (sameS Hew7.out Hfw7.out).mono ?_
    rintro e w8 ⟨rfl, hb⟩
    have Hdw8 := Lib.hid (Hdw7.out.below hb)
    have Hew8 := Lib.hid (Hew7.out.below hb)
    have Hfw8 := Lib.hid (Hfw7.out.below hb)
    have HBw8 := Lib.hid (HBw7.out.trans (hb.mono HBw7.out.size))
    clear qe0 qe1 qe2 qe3 qe4 qf0 qf1 qf2 qf3 qf4
    clear hb
    have qe0 := Hew8.out.box.c0
    have qe1 := Hew8.out.box.c1
    have qe2 := Hew8.out.box.c2
    have qe3 := Hew8.out.box.c3
    have qe4 := Hew8.out.box.c4
    have hz : mr = 0 := by have h := Y2r.out.1; rw [HW.out] at h; exact h
    have hl : decide ((mr : Int) = 0) = true := decide_eq_true (by omega)
    have hl2 : ((mr : Int) == 0) = true := by rw [beq_iff_eq]; omega
    go_wp2_with fail
    go_ret
    exact ⟨rfl, HBw8.out⟩
  · have hq : ¬ o = 0 := ho
    clear hy ho
    obtain ⟨k1, k2⟩ := DV.boxed h1 h2 ln lm lo hi
    have Hd0 := Lib.hid k1
    have HB0 := Lib.hid k2
    clear k1 k2
    go_enter Tryd.func8, Tryd.ntmps8
    go_wp2_with fail
    generalize w.alloc _ = w0 at *
    go_at_call 20
    refine (lives_true w0).mono ?_
    rintro e w1 ⟨rfl, hb⟩
    have Hdw1 := Lib.hid (Hd0.out.below hb)
    have HBw1 := Lib.hid (HB0.out.trans (hb.mono HB0.out.size))
    clear hb
    have qd0 := Hdw1.out.box.c0
    have qd1 := Hdw1.out.box.c1
    have qd2 := Hdw1.out.box.c2
    have qd3 := Hdw1.out.box.c3
    have qd4 := Hdw1.out.box.c4
    have qdf := Hdw1.out.box.fr 4
    go_wp2_with fail
    have Hdx := Lib.hid (Hdw1.out.fuse (-1) (by decide) (by decide))
    have HBx := Lib.hid (HBw1.out.setCell (p := ⟨w.heap.size, 4, none⟩) (Nat.le_refl _) (.int .i64 (-1)))
    clear qd0 qd1 qd2 qd3 qd4 qdf
    generalize w1.setCell _ _ = wx at *
    have qd0 := Hdx.out.box.c0
    have qd1 := Hdx.out.box.c1
    have qd2 := Hdx.out.box.c2
    have qd3 := Hdx.out.box.c3
    have qd4 := Hdx.out.box.c4
    go_at_call 18
    refine (readS num Hdx.out).mono ?_
    rintro e w2 ⟨rfl, hb⟩
    have Hdw2 := Lib.hid (Hdx.out.below hb)
    have HBw2 := Lib.hid (HBx.out.trans (hb.mono HBx.out.size))
    clear qd0 qd1 qd2 qd3 qd4
    clear hb
    have qd0 := Hdw2.out.box.c0
    have qd1 := Hdw2.out.box.c1
    have qd2 := Hdw2.out.box.c2
    have qd3 := Hdw2.out.box.c3
    have qd4 := Hdw2.out.box.c4
    go_wp2_with fail
    go_at_call 16
    refine (flushS Hdw2.out).mono ?_
    rw [Ey.out, Eo.out]
    rintro e w3 ⟨Ar, nr, cr, Br, mr, dr, rfl, y1r, y2r, y3r, y4r, y5r, y6r, hb⟩
    have Y1r := Lib.hid y1r
    have Y2r := Lib.hid y2r
    have Hdw3 := Lib.hid (Hdw2.out.below hb)
    have HBw3 := Lib.hid (HBw2.out.trans (hb.mono HBw2.out.size))
    clear qd0 qd1 qd2 qd3 qd4
    clear hb y1r y2r
    go_wp2_with (refine wpList_new (x := y) 7 25 rfl rfl rfl rfl Y1r.out Y2r.out y3r y4r y5r y6r ?_; intro w4 hb hd; have Hdw4 := Lib.hid (Hdw3.out.below hb); have HBw4 := Lib.hid (HBw3.out.trans (hb.mono HBw3.out.size)); have Hew4 := Lib.hid hd; clear hb hd)
    go_ret
    exact ⟨rfl, HBw4.out⟩
end Go.Proofs.YtjkapmghifglcaaDoor.Dv
