/- The walk of the law file's lives. -/
import Derived.Test.YtjkapmghifglcaaDoorDwB
namespace Go.Proofs.YtjkapmghifglcaaDoor.Dv
set_option linter.unusedVariables false
open Go.ChangeShapes Go.WideShapes Go.ChangeAt Go.RowKit
open Ar Rg St
open BigFrame
set_option maxRecDepth 100000 in
set_option maxHeartbeats 2000000 in
theorem lives_true (w : World) : Calls Tryd.prog 20 #[] w fun e w' => e = .returned (.bool true) ∧ Below w.heap.size w w' := by
  have HB0 := Lib.hid (Below.refl w.heap.size w)
  have HZ := Lib.hid (show SlB w none 0 0 [] from ⟨rfl, Nat.le_refl _, Nat.zero_le _, 0, Nat.zero_le _, Ls.nil⟩)
  go_enter Tryd.func20, Tryd.ntmps20
  go_wp2_with (refine wpList_new (x := L0) 1 16 rfl rfl rfl rfl HZ.out HZ.out (by decide) (by decide) (by decide) (by decide) ?_; intro w1 hb hd; have HBw1 := Lib.hid (HB0.out.trans (hb.mono HB0.out.size)); have Haw1 := Lib.hid hd; clear hb hd; have qa0 := Haw1.out.box.c0; have qa1 := Haw1.out.box.c1; have qa2 := Haw1.out.box.c2; have qa3 := Haw1.out.box.c3; have qa4 := Haw1.out.box.c4)
  have hsz : w.heap.size ≤ w1.heap.size := HBw1.out.size
  go_at_call 14
  refine (writeS 3 ⟨#[97, 0]⟩ (by decide) Haw1.out).mono ?_
  rw [l1, o1]
  rintro e w2 ⟨Ap, np, cp, Bp, mp, dp, rfl, y1p, y2p, y3p, y4p, y5p, y6p, hb⟩
  have Y1p := Lib.hid y1p
  have Y2p := Lib.hid y2p
  have Haw2 := Lib.hid (Haw1.out.below hb)
  have HBw2 := Lib.hid (HBw1.out.trans (hb.mono HBw1.out.size))
  clear qa0 qa1 qa2 qa3 qa4
  clear hb y1p y2p
  go_wp2_with (refine wpList_over Haw2.out (x := L1) 1 20 rfl rfl rfl rfl Y1p.out Y2p.out y3p y4p y5p y6p ?_; intro w3 ho hd; have HBw3 := Lib.hid (below_over HBw2.out (Nat.le_refl _) ho); have Haw3 := Lib.hid hd; clear ho hd; have qa0 := Haw3.out.box.c0; have qa1 := Haw3.out.box.c1; have qa2 := Haw3.out.box.c2; have qa3 := Haw3.out.box.c3; have qa4 := Haw3.out.box.c4)
  go_at_call 16
  refine (flushS Haw3.out).mono ?_
  rw [l2, o2]
  rintro e w4 ⟨Aq, nq, cq, Bq, mq, dq, rfl, y1q, y2q, y3q, y4q, y5q, y6q, hb⟩
  have Y1q := Lib.hid y1q
  have Y2q := Lib.hid y2q
  have Haw4 := Lib.hid (Haw3.out.below hb)
  have HBw4 := Lib.hid (HBw3.out.trans (hb.mono HBw3.out.size))
  clear qa0 qa1 qa2 qa3 qa4
  clear hb y1q y2q
  go_wp2_with (refine wpList_over Haw4.out (x := L2) 1 25 rfl rfl rfl rfl Y1q.out Y2q.out y3q y4q y5q y6q ?_; intro w5 ho hd; have HBw5 := Lib.hid (below_over HBw4.out (Nat.le_refl _) ho); have Haw5 := Lib.hid hd; clear ho hd; have qa0 := Haw5.out.box.c0; have qa1 := Haw5.out.box.c1; have qa2 := Haw5.out.box.c2; have qa3 := Haw5.out.box.c3; have qa4 := Haw5.out.box.c4)
  go_at_call 14
  refine (writeS 3 ⟨#[98]⟩ (by decide) Haw5.out).mono ?_
  rw [l3, o3]
  rintro e w6 ⟨Ar, nr, cr, Br, mr, dr, rfl, y1r, y2r, y3r, y4r, y5r, y6r, hb⟩
  have Y1r := Lib.hid y1r
  have Y2r := Lib.hid y2r
  have Haw6 := Lib.hid (Haw5.out.below hb)
  have HBw6 := Lib.hid (HBw5.out.trans (hb.mono HBw5.out.size))
  clear qa0 qa1 qa2 qa3 qa4
  clear hb y1r y2r
  go_wp2_with (refine wpList_over Haw6.out (x := L3) 1 30 rfl rfl rfl rfl Y1r.out Y2r.out y3r y4r y5r y6r ?_; intro w7 ho hd; have HBw7 := Lib.hid (below_over HBw6.out (Nat.le_refl _) ho); have Haw7 := Lib.hid hd; clear ho hd; have qa0 := Haw7.out.box.c0; have qa1 := Haw7.out.box.c1; have qa2 := Haw7.out.box.c2; have qa3 := Haw7.out.box.c3; have qa4 := Haw7.out.box.c4)
  go_at_call 14
  refine (writeS 4 ⟨#[99]⟩ (by decide) Haw7.out).mono ?_
  rw [l4, o4]
  rintro e w8 ⟨As, ns, cs, Bs, ms, ds, rfl, y1s, y2s, y3s, y4s, y5s, y6s, hb⟩
  have Y1s := Lib.hid y1s
  have Y2s := Lib.hid y2s
  have Haw8 := Lib.hid (Haw7.out.below hb)
  have HBw8 := Lib.hid (HBw7.out.trans (hb.mono HBw7.out.size))
  clear qa0 qa1 qa2 qa3 qa4
  clear hb y1s y2s
  go_wp2_with (refine wpList_over Haw8.out (x := L4) 1 35 rfl rfl rfl rfl Y1s.out Y2s.out y3s y4s y5s y6s ?_; intro w9 ho hd; have HBw9 := Lib.hid (below_over HBw8.out (Nat.le_refl _) ho); have Haw9 := Lib.hid hd; clear ho hd; have qa0 := Haw9.out.box.c0; have qa1 := Haw9.out.box.c1; have qa2 := Haw9.out.box.c2; have qa3 := Haw9.out.box.c3; have qa4 := Haw9.out.box.c4)
  go_at_call 18
  refine (readS 3 Haw9.out).mono ?_
  rw [s5, o5]
  rintro e w10 ⟨rfl, hb⟩
  have Haw10 := Lib.hid (Haw9.out.below hb)
  have HBw10 := Lib.hid (HBw9.out.trans (hb.mono HBw9.out.size))
  clear qa0 qa1 qa2 qa3 qa4
  clear hb
  have qa0 := Haw10.out.box.c0
  have qa1 := Haw10.out.box.c1
  have qa2 := Haw10.out.box.c2
  have qa3 := Haw10.out.box.c3
  have qa4 := Haw10.out.box.c4
  have hb : Below w10.heap.size w10 (w10.alloc (.cells #[.bool false, .bool true] 4)) := (Below.refl _ _).alloc (Nat.le_refl _) _
  have HK := Lib.hid (show SlK (w10.alloc (.cells #[.bool false, .bool true] 4)) (some ⟨w10.heap.size, 0, none⟩) 2 [false, true] from ⟨rfl, fun j hj => ⟨_, _, rfl, by simp, by match j, hj with | 0, _ => simp | 1, _ => simp⟩⟩)
  go_wp2_with fail
  have Hawx := Lib.hid (Haw10.out.below hb)
  have HBwx := Lib.hid (HBw10.out.trans (hb.mono HBw10.out.size))
  clear qa0 qa1 qa2 qa3 qa4
  clear hb
  generalize w10.alloc (.cells #[.bool false, .bool true] 4) = wx at *
  go_at_call 24
  refine (crashS [false, true] HK.out Hawx.out).mono ?_
  rw [l5, o6]
  rintro e w11 ⟨Au, nu, cu, Bu, mu, du, rfl, y1u, y2u, y3u, y4u, y5u, y6u, hb⟩
  have Y1u := Lib.hid y1u
  have Y2u := Lib.hid y2u
  have Haw11 := Lib.hid (Hawx.out.below hb)
  have HBw11 := Lib.hid (HBwx.out.trans (hb.mono HBwx.out.size))
  clear hb y1u y2u
  go_wp2_with (refine wpList_new (x := L5) 8 46 rfl rfl rfl rfl Y1u.out Y2u.out y3u y4u y5u y6u ?_; intro w12 hb hd; have Haw12 := Lib.hid (Haw11.out.below hb); have HBw12 := Lib.hid (HBw11.out.trans (hb.mono HBw11.out.size)); have Hew12 := Lib.hid hd; clear hb hd; have qe0 := Hew12.out.box.c0; have qe1 := Hew12.out.box.c1; have qe2 := Hew12.out.box.c2; have qe3 := Hew12.out.box.c3; have qe4 := Hew12.out.box.c4)
  go_at_call 18
  refine (readS 3 Hew12.out).mono ?_
  rw [s7, o7]
  rintro e w13 ⟨rfl, hb⟩
  have Haw13 := Lib.hid (Haw12.out.below hb)
  have Hew13 := Lib.hid (Hew12.out.below hb)
  have HBw13 := Lib.hid (HBw12.out.trans (hb.mono HBw12.out.size))
  clear qe0 qe1 qe2 qe3 qe4
  clear hb
  have qe0 := Hew13.out.box.c0
  have qe1 := Hew13.out.box.c1
  have qe2 := Hew13.out.box.c2
  have qe3 := Hew13.out.box.c3
  have qe4 := Hew13.out.box.c4
  go_wp2_with fail
  go_at_call 18
  refine (readS 4 Hew13.out).mono ?_
  rw [s8, o8]
  rintro e w14 ⟨rfl, hb⟩
  have Haw14 := Lib.hid (Haw13.out.below hb)
  have Hew14 := Lib.hid (Hew13.out.below hb)
  have HBw14 := Lib.hid (HBw13.out.trans (hb.mono HBw13.out.size))
  clear qe0 qe1 qe2 qe3 qe4
  clear hb
  have qe0 := Hew14.out.box.c0
  have qe1 := Hew14.out.box.c1
  have qe2 := Hew14.out.box.c2
  have qe3 := Hew14.out.box.c3
  have qe4 := Hew14.out.box.c4
  go_wp2_with fail
  go_at_call 14
  refine (writeS 16 ⟨#[120]⟩ (by decide) Hew14.out).mono ?_
  rw [o9]
  rintro e w15 ⟨Az, nz, cz, Bz, mz, dz, rfl, y1z, y2z, y3z, y4z, y5z, y6z, hb⟩
  have Y1z := Lib.hid y1z
  have Y2z := Lib.hid y2z
  have Haw15 := Lib.hid (Haw14.out.below hb)
  have Hew15 := Lib.hid (Hew14.out.below hb)
  have HBw15 := Lib.hid (HBw14.out.trans (hb.mono HBw14.out.size))
  clear qe0 qe1 qe2 qe3 qe4
  clear hb y1z y2z
  go_wp2_with (refine wpList_new (x := wrX L5 16 ⟨#[120]⟩) 14 61 rfl rfl rfl rfl Y1z.out Y2z.out y3z y4z y5z y6z ?_; intro w16 hb hd; have Haw16 := Lib.hid (Haw15.out.below hb); have Hew16 := Lib.hid (Hew15.out.below hb); have HBw16 := Lib.hid (HBw15.out.trans (hb.mono HBw15.out.size)); have Hfw16 := Lib.hid hd; clear hb hd)
  go_ret
  exact ⟨rfl, HBw16.out⟩
end Go.Proofs.YtjkapmghifglcaaDoor.Dv
