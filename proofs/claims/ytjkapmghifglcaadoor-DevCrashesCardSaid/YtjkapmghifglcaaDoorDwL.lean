/- The walk of the law DevCrashes. -/
import Derived.Test.YtjkapmghifglcaaDoorDwC
import Derived.Test.YtjkapmghifglcaaDoorDxM
namespace Go.Proofs.YtjkapmghifglcaaDoor.Dv
set_option linter.unusedVariables false
open Go.ChangeShapes Go.WideShapes Go.ChangeAt Go.RowKit
open Ar Rg St
open BigFrame
theorem copyS {w : World} {b n c m c' : Nat} {A A' : Option Addr} {x : De} (h : DV w b A n c A' m c' x) (hn : n ≤ 5864062014634) (hm : m ≤ 5864062014634) :
    Calls Tryd.prog 13 #[.agg #[.int .u32 x.N, .slice A n c, .slice A' m c', .bool x.dn, .int .i64 x.fu]] w fun e w' =>
      ∃ A2 n2 c2 A3 n3 c3, e = .returned (.agg #[.int .u32 x.N, .slice A2 n2 c2, .slice A3 n3 c3, .bool x.dn, .int .i64 x.fu]) ∧ SlB w' A2 n2 c2 x.D ∧ SlB w' A3 n3 c3 x.W ∧ n2 ≤ 281474976710656 ∧ n3 ≤ 281474976710656 ∧ -9223372036854775808 ≤ x.fu ∧ x.fu ≤ 9223372036854775807 ∧ Below w.heap.size w w' := by
  refine (refCopy_any x.N x.D x.W A A' n c m c' x.dn x.fu (by omega) (by omega) w h.one h.two).mono ?_
  rintro e w' ⟨v1, v2, he, hT, hb⟩
  obtain ⟨A1, n1, c1, rfl, hs1⟩ := hT.one.sl
  obtain ⟨A2, n2, c2, rfl, hs2⟩ := hT.two.sl
  have h1 := hs1.1
  have h2 := hs2.1
  have h3 := h.one.1
  have h4 := h.two.1
  exact ⟨A1, n1, c1, A2, n2, c2, he, hs1, hs2, by omega, by omega, h.lo, h.hi, hb⟩
variable {w : World} {b n c m c' : Nat} {A A' : Option Addr} {x : De}
theorem refCrashS (K : List Bool) {AK : Option Addr} {nk ck : Nat} (hK : SlK w AK nk K) (h : DV w b A n c A' m c' x) :
    Calls Tryd.prog 25 #[.agg #[.int .u32 x.N, .slice A n c, .slice A' m c', .bool x.dn, .int .i64 x.fu], .slice AK nk ck] w (Ret (crX x (kp K)) (chO x) w) := (refCrash_any x K AK nk ck _ w h.at_ hK).mono fun _ _ h => Ret.of h
theorem refSpoilS (num : Nat) (s : ByteArray) (hs : s.size ≤ 9223372036854775807) (h : DV w b A n c A' m c' x) :
    Calls Tryd.prog 27 #[.agg #[.int .u32 x.N, .slice A n c, .slice A' m c', .bool x.dn, .int .i64 x.fu], .int .u32 num, .string s] w (Ret (spX x num s) (spO x num s) w) := (refSpoil_any x num s _ w h.at_ hs).mono fun _ _ h => Ret.of h
theorem refFlushS (h : DV w b A n c A' m c' x) :
    Calls Tryd.prog 17 #[.agg #[.int .u32 x.N, .slice A n c, .slice A' m c', .bool x.dn, .int .i64 x.fu]] w (Ret (flX x) (flO x) w) := (refFlush_any x _ w h.at_).mono fun _ _ h => Ret.of h
set_option maxRecDepth 100000 in
set_option maxHeartbeats 2000000 in
theorem devCrashes_walk (w : World) (x : De) (A : Option Addr) (n c : Nat) (A' : Option Addr) (m c' : Nat) (h1 : SlB w A n c x.D) (h2 : SlB w A' m c' x.W) (ln : n ≤ 281474976710656) (lm : m ≤ 281474976710656) (lo : -9223372036854775808 ≤ x.fu) (hi : x.fu ≤ 9223372036854775807) (KL : List Bool) (AK : Option Addr) (nk ck : Nat) (hK : SlK w AK nk KL) (num : Nat) (s : ByteArray) (jn : n ≤ 5864062014634) (jm : m ≤ 5864062014634) (hs : s.size ≤ 9223372036854775807) :
    Calls Tryd.prog 4 #[.agg #[.int .u32 x.N, .slice A n c, .slice A' m c', .bool x.dn, .int .i64 x.fu], .slice AK nk ck, .int .u32 num, .string s] w fun e w' => e = .returned (.bool true) ∧ Below w.heap.size w w' := by
  have HKL := Lib.hid hK
  clear hK
  obtain ⟨y, hy⟩ : ∃ y, crX x (kp KL) = y := ⟨_, rfl⟩
  have Ey := Lib.hid hy
  obtain ⟨z, hz⟩ : ∃ z, spX x num s = z := ⟨_, rfl⟩
  have Ez := Lib.hid hz
  obtain ⟨o, ho⟩ : ∃ o, chO x = o := ⟨_, rfl⟩
  have Eo := Lib.hid ho
  obtain ⟨r, hr⟩ : ∃ r, spO x num s = r := ⟨_, rfl⟩
  have Er := Lib.hid hr
  clear hy hz ho hr
  obtain ⟨k1, k2⟩ := DV.boxed h1 h2 ln lm lo hi
  have Hd0 := Lib.hid k1
  have HB0 := Lib.hid k2
  have qd0 := Hd0.out.box.c0
  have qd1 := Hd0.out.box.c1
  have qd2 := Hd0.out.box.c2
  have qd3 := Hd0.out.box.c3
  have qd4 := Hd0.out.box.c4
  clear k1 k2
  go_enter Tryd.func4, Tryd.ntmps4
  go_wp2_with fail
  generalize w.alloc _ = w0 at *
  go_at_call 13
  refine (copyS Hd0.out jn jm).mono ?_
  rintro e w1 ⟨Ag, ng, cg, Bg, mg, dg, rfl, y1g, y2g, y3g, y4g, y5g, y6g, hb⟩
  have Y1g := Lib.hid y1g
  have Y2g := Lib.hid y2g
  have Hdw1 := Lib.hid (Hd0.out.below hb)
  have HBw1 := Lib.hid (HB0.out.trans (hb.mono HB0.out.size))
  clear qd0 qd1 qd2 qd3 qd4
  clear hb y1g y2g
  go_wp2_with (refine wpList_new (x := x) 9 19 rfl rfl rfl rfl Y1g.out Y2g.out y3g y4g y5g y6g ?_; intro w2 hb hd; have NEdg := Lib.hid (Nat.ne_of_lt Hdw1.out.lt); have NEgd := Lib.hid (Nat.ne_of_gt Hdw1.out.lt); have Hdw2 := Lib.hid (Hdw1.out.below hb); have HBw2 := Lib.hid (HBw1.out.trans (hb.mono HBw1.out.size)); have Hgw2 := Lib.hid hd; clear hb hd; have qg0 := Hgw2.out.box.c0; have qg1 := Hgw2.out.box.c1; have qg2 := Hgw2.out.box.c2; have qg3 := Hgw2.out.box.c3; have qg4 := Hgw2.out.box.c4)
  go_at_call 24
  refine (crashS KL (HKL.out.below HBw2.out) Hgw2.out).mono ?_
  rw [Ey.out, Eo.out]
  rintro e w3 ⟨Aa, na, ca, Ba, ma, da, rfl, y1a, y2a, y3a, y4a, y5a, y6a, hb⟩
  have Y1a := Lib.hid y1a
  have Y2a := Lib.hid y2a
  have Hdw3 := Lib.hid (Hdw2.out.below hb)
  have Hgw3 := Lib.hid (Hgw2.out.below hb)
  have HBw3 := Lib.hid (HBw2.out.trans (hb.mono HBw2.out.size))
  clear qg0 qg1 qg2 qg3 qg4
  clear hb y1a y2a
  go_wp2_with (refine wpList_new (x := y) 10 24 rfl rfl rfl rfl Y1a.out Y2a.out y3a y4a y5a y6a ?_; intro w4 hb hd; have NEda := Lib.hid (Nat.ne_of_lt Hdw3.out.lt); have NEad := Lib.hid (Nat.ne_of_gt Hdw3.out.lt); have NEga := Lib.hid (Nat.ne_of_lt Hgw3.out.lt); have NEag := Lib.hid (Nat.ne_of_gt Hgw3.out.lt); have Hdw4 := Lib.hid (Hdw3.out.below hb); have Hgw4 := Lib.hid (Hgw3.out.below hb); have HBw4 := Lib.hid (HBw3.out.trans (hb.mono HBw3.out.size)); have Haw4 := Lib.hid hd; clear hb hd; have qd0 := Hdw4.out.box.c0; have qd1 := Hdw4.out.box.c1; have qd2 := Hdw4.out.box.c2; have qd3 := Hdw4.out.box.c3; have qd4 := Hdw4.out.box.c4)
  go_at_call 25
  refine (refCrashS KL (HKL.out.below HBw4.out) Hdw4.out).mono ?_
  rw [Ey.out, Eo.out]
  rintro e w5 ⟨Ab, nb, cb, Bb, mb, db, rfl, y1b, y2b, y3b, y4b, y5b, y6b, hb⟩
  have Y1b := Lib.hid y1b
  have Y2b := Lib.hid y2b
  have Hdw5 := Lib.hid (Hdw4.out.below hb)
  have Hgw5 := Lib.hid (Hgw4.out.below hb)
  have Haw5 := Lib.hid (Haw4.out.below hb)
  have HBw5 := Lib.hid (HBw4.out.trans (hb.mono HBw4.out.size))
  clear qd0 qd1 qd2 qd3 qd4
  clear hb y1b y2b
  go_wp2_with (refine wpList_new (x := y) 12 30 rfl rfl rfl rfl Y1b.out Y2b.out y3b y4b y5b y6b ?_; intro w6 hb hd; have NEdb := Lib.hid (Nat.ne_of_lt Hdw5.out.lt); have NEbd := Lib.hid (Nat.ne_of_gt Hdw5.out.lt); have NEgb := Lib.hid (Nat.ne_of_lt Hgw5.out.lt); have NEbg := Lib.hid (Nat.ne_of_gt Hgw5.out.lt); have NEab := Lib.hid (Nat.ne_of_lt Haw5.out.lt); have NEba := Lib.hid (Nat.ne_of_gt Haw5.out.lt); have Hdw6 := Lib.hid (Hdw5.out.below hb); have Hgw6 := Lib.hid (Hgw5.out.below hb); have Haw6 := Lib.hid (Haw5.out.below hb); have HBw6 := Lib.hid (HBw5.out.trans (hb.mono HBw5.out.size)); have Hbw6 := Lib.hid hd; clear hb hd; have qg0 := Hgw6.out.box.c0; have qg1 := Hgw6.out.box.c1; have qg2 := Hgw6.out.box.c2; have qg3 := Hgw6.out.box.c3; have qg4 := Hgw6.out.box.c4)
  go_at_call 26
  refine (spoilS num s hs Hgw6.out).mono ?_
  rw [Ez.out, Er.out]
  rintro e w7 ⟨Ac, nc, cc, Bc, mc, dc, rfl, y1c, y2c, y3c, y4c, y5c, y6c, hb⟩
  have Y1c := Lib.hid y1c
  have Y2c := Lib.hid y2c
  have Hdw7 := Lib.hid (Hdw6.out.below hb)
  have Hgw7 := Lib.hid (Hgw6.out.below hb)
  have Haw7 := Lib.hid (Haw6.out.below hb)
  have Hbw7 := Lib.hid (Hbw6.out.below hb)
  have HBw7 := Lib.hid (HBw6.out.trans (hb.mono HBw6.out.size))
  clear qg0 qg1 qg2 qg3 qg4
  clear hb y1c y2c
  go_wp2_with (refine wpList_new (x := z) 14 37 rfl rfl rfl rfl Y1c.out Y2c.out y3c y4c y5c y6c ?_; intro w8 hb hd; have NEdc := Lib.hid (Nat.ne_of_lt Hdw7.out.lt); have NEcd := Lib.hid (Nat.ne_of_gt Hdw7.out.lt); have NEgc := Lib.hid (Nat.ne_of_lt Hgw7.out.lt); have NEcg := Lib.hid (Nat.ne_of_gt Hgw7.out.lt); have NEac := Lib.hid (Nat.ne_of_lt Haw7.out.lt); have NEca := Lib.hid (Nat.ne_of_gt Haw7.out.lt); have NEbc := Lib.hid (Nat.ne_of_lt Hbw7.out.lt); have NEcb := Lib.hid (Nat.ne_of_gt Hbw7.out.lt); have Hdw8 := Lib.hid (Hdw7.out.below hb); have Hgw8 := Lib.hid (Hgw7.out.below hb); have Haw8 := Lib.hid (Haw7.out.below hb); have Hbw8 := Lib.hid (Hbw7.out.below hb); have HBw8 := Lib.hid (HBw7.out.trans (hb.mono HBw7.out.size)); have Hcw8 := Lib.hid hd; clear hb hd; have qd0 := Hdw8.out.box.c0; have qd1 := Hdw8.out.box.c1; have qd2 := Hdw8.out.box.c2; have qd3 := Hdw8.out.box.c3; have qd4 := Hdw8.out.box.c4)
  go_at_call 27
  refine (refSpoilS num s hs Hdw8.out).mono ?_
  rw [Ez.out, Er.out]
  rintro e w9 ⟨Ae, ne, ce, Be, me, de, rfl, y1e, y2e, y3e, y4e, y5e, y6e, hb⟩
  have Y1e := Lib.hid y1e
  have Y2e := Lib.hid y2e
  have Hdw9 := Lib.hid (Hdw8.out.below hb)
  have Hgw9 := Lib.hid (Hgw8.out.below hb)
  have Haw9 := Lib.hid (Haw8.out.below hb)
  have Hbw9 := Lib.hid (Hbw8.out.below hb)
  have Hcw9 := Lib.hid (Hcw8.out.below hb)
  have HBw9 := Lib.hid (HBw8.out.trans (hb.mono HBw8.out.size))
  clear qd0 qd1 qd2 qd3 qd4
  clear hb y1e y2e
  go_wp2_with (refine wpList_new (x := z) 16 44 rfl rfl rfl rfl Y1e.out Y2e.out y3e y4e y5e y6e ?_; intro w10 hb hd; have NEde := Lib.hid (Nat.ne_of_lt Hdw9.out.lt); have NEed := Lib.hid (Nat.ne_of_gt Hdw9.out.lt); have NEge := Lib.hid (Nat.ne_of_lt Hgw9.out.lt); have NEeg := Lib.hid (Nat.ne_of_gt Hgw9.out.lt); have NEae := Lib.hid (Nat.ne_of_lt Haw9.out.lt); have NEea := Lib.hid (Nat.ne_of_gt Haw9.out.lt); have NEbe := Lib.hid (Nat.ne_of_lt Hbw9.out.lt); have NEeb := Lib.hid (Nat.ne_of_gt Hbw9.out.lt); have NEce := Lib.hid (Nat.ne_of_lt Hcw9.out.lt); have NEec := Lib.hid (Nat.ne_of_gt Hcw9.out.lt); have Hdw10 := Lib.hid (Hdw9.out.below hb); have Hgw10 := Lib.hid (Hgw9.out.below hb); have Haw10 := Lib.hid (Haw9.out.below hb); have Hbw10 := Lib.hid (Hbw9.out.below hb); have Hcw10 := Lib.hid (Hcw9.out.below hb); have HBw10 := Lib.hid (HBw9.out.trans (hb.mono HBw9.out.size)); have Hew10 := Lib.hid hd; clear hb hd)
  go_at_call 20
  refine (lives_true _).mono ?_
  rintro e w11 ⟨rfl, hb⟩
  have Hdw11 := Lib.hid (Hdw10.out.below hb)
  have Hgw11 := Lib.hid (Hgw10.out.below hb)
  have Haw11 := Lib.hid (Haw10.out.below hb)
  have Hbw11 := Lib.hid (Hbw10.out.below hb)
  have Hcw11 := Lib.hid (Hcw10.out.below hb)
  have Hew11 := Lib.hid (Hew10.out.below hb)
  have HBw11 := Lib.hid (HBw10.out.trans (hb.mono HBw10.out.size))
  clear hb
  have qa0 := Haw11.out.box.c0
  have qa1 := Haw11.out.box.c1
  have qa2 := Haw11.out.box.c2
  have qa3 := Haw11.out.box.c3
  have qa4 := Haw11.out.box.c4
  have qb0 := Hbw11.out.box.c0
  have qb1 := Hbw11.out.box.c1
  have qb2 := Hbw11.out.box.c2
  have qb3 := Hbw11.out.box.c3
  have qb4 := Hbw11.out.box.c4
  go_wp2_with fail
  go_at_call 21
  refine (sameS Haw11.out Hbw11.out).mono ?_
  rintro e w12 ⟨rfl, hb⟩
  have Hdw12 := Lib.hid (Hdw11.out.below hb)
  have Hgw12 := Lib.hid (Hgw11.out.below hb)
  have Haw12 := Lib.hid (Haw11.out.below hb)
  have Hbw12 := Lib.hid (Hbw11.out.below hb)
  have Hcw12 := Lib.hid (Hcw11.out.below hb)
  have Hew12 := Lib.hid (Hew11.out.below hb)
  have HBw12 := Lib.hid (HBw11.out.trans (hb.mono HBw11.out.size))
  clear qa0 qa1 qa2 qa3 qa4 qb0 qb1 qb2 qb3 qb4
  clear hb
  have qc0 := Hcw12.out.box.c0
  have qc1 := Hcw12.out.box.c1
  have qc2 := Hcw12.out.box.c2
  have qc3 := Hcw12.out.box.c3
  have qc4 := Hcw12.out.box.c4
  have qe0 := Hew12.out.box.c0
  have qe1 := Hew12.out.box.c1
  have qe2 := Hew12.out.box.c2
  have qe3 := Hew12.out.box.c3
  have qe4 := Hew12.out.box.c4
  go_wp2_with fail
  go_at_call 21
  refine (sameS Hcw12.out Hew12.out).mono ?_
  rintro e w13 ⟨rfl, hb⟩
  have Hdw13 := Lib.hid (Hdw12.out.below hb)
  have Hgw13 := Lib.hid (Hgw12.out.below hb)
  have Haw13 := Lib.hid (Haw12.out.below hb)
  have Hbw13 := Lib.hid (Hbw12.out.below hb)
  have Hcw13 := Lib.hid (Hcw12.out.below hb)
  have Hew13 := Lib.hid (Hew12.out.below hb)
  have HBw13 := Lib.hid (HBw12.out.trans (hb.mono HBw12.out.size))
  clear qc0 qc1 qc2 qc3 qc4 qe0 qe1 qe2 qe3 qe4
  clear hb
  have qg0 := Hgw13.out.box.c0
  have qg1 := Hgw13.out.box.c1
  have qg2 := Hgw13.out.box.c2
  have qg3 := Hgw13.out.box.c3
  have qg4 := Hgw13.out.box.c4
  have qd0 := Hdw13.out.box.c0
  have qd1 := Hdw13.out.box.c1
  have qd2 := Hdw13.out.box.c2
  have qd3 := Hdw13.out.box.c3
  have qd4 := Hdw13.out.box.c4
  go_wp2_with fail
  go_at_call 21
  refine (sameS Hgw13.out Hdw13.out).mono ?_
  rintro e w14 ⟨rfl, hb⟩
  have Hdw14 := Lib.hid (Hdw13.out.below hb)
  have Hgw14 := Lib.hid (Hgw13.out.below hb)
  have Haw14 := Lib.hid (Haw13.out.below hb)
  have Hbw14 := Lib.hid (Hbw13.out.below hb)
  have Hcw14 := Lib.hid (Hcw13.out.below hb)
  have Hew14 := Lib.hid (Hew13.out.below hb)
  have HBw14 := Lib.hid (HBw13.out.trans (hb.mono HBw13.out.size))
  clear qg0 qg1 qg2 qg3 qg4 qd0 qd1 qd2 qd3 qd4
  clear hb
  go_wp2_with fail
  go_ret
  exact ⟨rfl, HBw14.out⟩
end Go.Proofs.YtjkapmghifglcaaDoor.Dv
