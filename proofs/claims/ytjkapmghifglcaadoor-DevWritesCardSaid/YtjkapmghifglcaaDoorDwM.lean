/- The walk of the law DevWrites. -/
import Derived.Test.YtjkapmghifglcaaDoorDwC
import Derived.Test.YtjkapmghifglcaaDoorDxM
import Derived.Test.YtjkapmghifglcaaDoorRgG
namespace Go.Proofs.YtjkapmghifglcaaDoor.Dv
set_option linter.unusedVariables false
open Go.ChangeShapes Go.WideShapes Go.ChangeAt Go.RowKit
open Ar Rg St
open BigFrame
theorem copyS {w : World} {b n c m c' : Nat} {A A' : Option Addr} {x : De} (h : DV w b A n c A' m c' x) (hn : n ≤ 5864062014634) (hm : m ≤ 5864062014634) :
    Calls Tryd.prog 13 #[.agg #[.int .u32 x.N, .slice A n c, .slice A' m c', .bool x.dn, .int .i64 x.fu]] w fun e w' =>
      ∃ A2 n2 c2 A3 n3 c3, e = .returned (.agg #[.int .u32 x.N, .slice A2 n2 c2, .slice A3 n3 c3, .bool x.dn, .int .i64 x.fu]) ∧ SlB w' A2 n2 c2 x.D ∧ SlB w' A3 n3 c3 x.W ∧ n2 ≤ 281474976710656 ∧ n3 ≤ 281474976710656 ∧ -9223372036854775808 ≤ x.fu ∧ x.fu ≤ 9223372036854775807 ∧ Below w.heap.size w w' := by
  refine (refCopy_any x.N x.D x.W A A' n c m c' x.dn x.fu (by omega) (by omega) w h.one h.two).mono ?_
  rintro e w' ⟨v1, v2, he, hT, hb⟩
  obtain ⟨A1, n1, c1, rfl, hs1⟩ := hT.one.sl
  obtain ⟨A2, n2, c2, rfl, hs2⟩ := hT.two.sl
  have h1 := hs1.1
  have h2 := hs2.1
  have h3 := h.one.1
  have h4 := h.two.1
  exact ⟨A1, n1, c1, A2, n2, c2, he, hs1, hs2, by omega, by omega, h.lo, h.hi, hb⟩
variable {w : World} {b n c m c' : Nat} {A A' : Option Addr} {x : De}
theorem refCrashS (K : List Bool) {AK : Option Addr} {nk ck : Nat} (hK : SlK w AK nk K) (h : DV w b A n c A' m c' x) :
    Calls Tryd.prog 25 #[.agg #[.int .u32 x.N, .slice A n c, .slice A' m c', .bool x.dn, .int .i64 x.fu], .slice AK nk ck] w (Ret (crX x (kp K)) (chO x) w) := (refCrash_any x K AK nk ck _ w h.at_ hK).mono fun _ _ h => Ret.of h
theorem refSpoilS (num : Nat) (s : ByteArray) (hs : s.size ≤ 9223372036854775807) (h : DV w b A n c A' m c' x) :
    Calls Tryd.prog 27 #[.agg #[.int .u32 x.N, .slice A n c, .slice A' m c', .bool x.dn, .int .i64 x.fu], .int .u32 num, .string s] w (Ret (spX x num s) (spO x num s) w) := (refSpoil_any x num s _ w h.at_ hs).mono fun _ _ h => Ret.of h
theorem refFlushS (h : DV w b A n c A' m c' x) :
    Calls Tryd.prog 17 #[.agg #[.int .u32 x.N, .slice A n c, .slice A' m c', .bool x.dn, .int .i64 x.fu]] w (Ret (flX x) (flO x) w) := (refFlush_any x _ w h.at_).mono fun _ _ h => Ret.of h
theorem refWriteS (num : Nat) (s : ByteArray) (hs : s.size ≤ 9223372036854775807) (h : DV w b A n c A' m c' x) :
    Calls Tryd.prog 15 #[.agg #[.int .u32 x.N, .slice A n c, .slice A' m c', .bool x.dn, .int .i64 x.fu], .int .u32 num, .string s] w (Ret (wrX x num s) (wrO x num s) w) := (refWrite_any x num s _ w h.at_ hs).mono fun _ _ h => Ret.of h
theorem refReadS (num : Nat) (h : DV w b A n c A' m c' x) :
    Calls Tryd.prog 19 #[.agg #[.int .u32 x.N, .slice A n c, .slice A' m c', .bool x.dn, .int .i64 x.fu], .int .u32 num] w fun e w' => e = .returned (.tuple #[.string (rdX x num), .int .i64 (rdO x num)]) ∧ Below w.heap.size w w' := refRead_any x num _ w h.at_
theorem refCheckS (h : DV w b A n c A' m c' x) :
    Calls Tryd.prog 23 #[.agg #[.int .u32 x.N, .slice A n c, .slice A' m c', .bool x.dn, .int .i64 x.fu]] w fun e w' => e = .returned (.int .i64 (chO x)) ∧ Below w.heap.size w w' := refCheck_any x.N x.D x.W A A' n c m c' x.dn x.fu h.ln h.lm w h.one h.two
set_option maxRecDepth 100000 in
set_option maxHeartbeats 2000000 in
theorem devWrites_walk (w : World) (x : De) (A : Option Addr) (n c : Nat) (A' : Option Addr) (m c' : Nat) (h1 : SlB w A n c x.D) (h2 : SlB w A' m c' x.W) (ln : n ≤ 281474976710656) (lm : m ≤ 281474976710656) (lo : -9223372036854775808 ≤ x.fu) (hi : x.fu ≤ 9223372036854775807) (num : Nat) (s : ByteArray) (jn : n ≤ 5864062014634) (jm : m ≤ 5864062014634) (hs : s.size ≤ 9223372036854775807) :
    Calls Tryd.prog 3 #[.agg #[.int .u32 x.N, .slice A n c, .slice A' m c', .bool x.dn, .int .i64 x.fu], .int .u32 num, .string s] w fun e w' => e = .returned (.bool true) ∧ Below w.heap.size w w' := by
  obtain ⟨y, hy⟩ : ∃ y, wrX x num s = y := ⟨_, rfl⟩
  have Ey := Lib.hid hy
  obtain ⟨z, hz⟩ : ∃ z, flX x = z := ⟨_, rfl⟩
  have Ez := Lib.hid hz
  obtain ⟨o, ho⟩ : ∃ o, wrO x num s = o := ⟨_, rfl⟩
  have Eo := Lib.hid ho
  obtain ⟨r, hr⟩ : ∃ r, flO x = r := ⟨_, rfl⟩
  have Er := Lib.hid hr
  obtain ⟨p, hp⟩ : ∃ p, rdX x num = p := ⟨_, rfl⟩
  have Ep := Lib.hid hp
  obtain ⟨q, hq⟩ : ∃ q, rdO x num = q := ⟨_, rfl⟩
  have Eq := Lib.hid hq
  obtain ⟨u, hu⟩ : ∃ u, chO x = u := ⟨_, rfl⟩
  have Eu := Lib.hid hu
  clear hy hz ho hr hp hq hu
  obtain ⟨k1, k2⟩ := DV.boxed h1 h2 ln lm lo hi
  have Hd0 := Lib.hid k1
  have HB0 := Lib.hid k2
  have qd0 := Hd0.out.box.c0
  have qd1 := Hd0.out.box.c1
  have qd2 := Hd0.out.box.c2
  have qd3 := Hd0.out.box.c3
  have qd4 := Hd0.out.box.c4
  clear k1 k2
  go_enter Tryd.func3, Tryd.ntmps3
  go_wp2_with fail
  generalize w.alloc _ = w0 at *
  go_at_call 13
  refine (copyS Hd0.out jn jm).mono ?_
  rintro e w1 ⟨Ag, ng, cg, Bg, mg, dg, rfl, y1g, y2g, y3g, y4g, y5g, y6g, hb⟩
  have Y1g := Lib.hid y1g
  have Y2g := Lib.hid y2g
  have Hdw1 := Lib.hid (Hd0.out.below hb)
  have HBw1 := Lib.hid (HB0.out.trans (hb.mono HB0.out.size))
  clear qd0 qd1 qd2 qd3 qd4
  clear hb y1g y2g
  go_wp2_with (refine wpList_new (x := x) 7 21 rfl rfl rfl rfl Y1g.out Y2g.out y3g y4g y5g y6g ?_; intro w2 hb hd; have NEdg := Lib.hid (Nat.ne_of_lt Hdw1.out.lt); have NEgd := Lib.hid (Nat.ne_of_gt Hdw1.out.lt); have Hdw2 := Lib.hid (Hdw1.out.below hb); have HBw2 := Lib.hid (HBw1.out.trans (hb.mono HBw1.out.size)); have Hgw2 := Lib.hid hd; clear hb hd; have qg0 := Hgw2.out.box.c0; have qg1 := Hgw2.out.box.c1; have qg2 := Hgw2.out.box.c2; have qg3 := Hgw2.out.box.c3; have qg4 := Hgw2.out.box.c4)
  go_at_call 14
  refine (writeS num s hs Hgw2.out).mono ?_
  rw [Ey.out, Eo.out]
  rintro e w3 ⟨Aa, na, ca, Ba, ma, da, rfl, y1a, y2a, y3a, y4a, y5a, y6a, hb⟩
  have Y1a := Lib.hid y1a
  have Y2a := Lib.hid y2a
  have Hdw3 := Lib.hid (Hdw2.out.below hb)
  have Hgw3 := Lib.hid (Hgw2.out.below hb)
  have HBw3 := Lib.hid (HBw2.out.trans (hb.mono HBw2.out.size))
  clear qg0 qg1 qg2 qg3 qg4
  clear hb y1a y2a
  go_wp2_with (refine wpList_new (x := y) 8 27 rfl rfl rfl rfl Y1a.out Y2a.out y3a y4a y5a y6a ?_; intro w4 hb hd; have NEda := Lib.hid (Nat.ne_of_lt Hdw3.out.lt); have NEad := Lib.hid (Nat.ne_of_gt Hdw3.out.lt); have NEga := Lib.hid (Nat.ne_of_lt Hgw3.out.lt); have NEag := Lib.hid (Nat.ne_of_gt Hgw3.out.lt); have Hdw4 := Lib.hid (Hdw3.out.below hb); have Hgw4 := Lib.hid (Hgw3.out.below hb); have HBw4 := Lib.hid (HBw3.out.trans (hb.mono HBw3.out.size)); have Haw4 := Lib.hid hd; clear hb hd; have qd0 := Hdw4.out.box.c0; have qd1 := Hdw4.out.box.c1; have qd2 := Hdw4.out.box.c2; have qd3 := Hdw4.out.box.c3; have qd4 := Hdw4.out.box.c4)
  go_at_call 15
  refine (refWriteS num s hs Hdw4.out).mono ?_
  rw [Ey.out, Eo.out]
  rintro e w5 ⟨Ab, nb, cb, Bb, mb, db, rfl, y1b, y2b, y3b, y4b, y5b, y6b, hb⟩
  have Y1b := Lib.hid y1b
  have Y2b := Lib.hid y2b
  have Hdw5 := Lib.hid (Hdw4.out.below hb)
  have Hgw5 := Lib.hid (Hgw4.out.below hb)
  have Haw5 := Lib.hid (Haw4.out.below hb)
  have HBw5 := Lib.hid (HBw4.out.trans (hb.mono HBw4.out.size))
  clear qd0 qd1 qd2 qd3 qd4
  clear hb y1b y2b
  go_wp2_with (refine wpList_new (x := y) 10 34 rfl rfl rfl rfl Y1b.out Y2b.out y3b y4b y5b y6b ?_; intro w6 hb hd; have NEdb := Lib.hid (Nat.ne_of_lt Hdw5.out.lt); have NEbd := Lib.hid (Nat.ne_of_gt Hdw5.out.lt); have NEgb := Lib.hid (Nat.ne_of_lt Hgw5.out.lt); have NEbg := Lib.hid (Nat.ne_of_gt Hgw5.out.lt); have NEab := Lib.hid (Nat.ne_of_lt Haw5.out.lt); have NEba := Lib.hid (Nat.ne_of_gt Haw5.out.lt); have Hdw6 := Lib.hid (Hdw5.out.below hb); have Hgw6 := Lib.hid (Hgw5.out.below hb); have Haw6 := Lib.hid (Haw5.out.below hb); have HBw6 := Lib.hid (HBw5.out.trans (hb.mono HBw5.out.size)); have Hbw6 := Lib.hid hd; clear hb hd; have qg0 := Hgw6.out.box.c0; have qg1 := Hgw6.out.box.c1; have qg2 := Hgw6.out.box.c2; have qg3 := Hgw6.out.box.c3; have qg4 := Hgw6.out.box.c4)
  go_at_call 16
  refine (flushS Hgw6.out).mono ?_
  rw [Ez.out, Er.out]
  rintro e w7 ⟨Ac, nc, cc, Bc, mc, dc, rfl, y1c, y2c, y3c, y4c, y5c, y6c, hb⟩
  have Y1c := Lib.hid y1c
  have Y2c := Lib.hid y2c
  have Hdw7 := Lib.hid (Hdw6.out.below hb)
  have Hgw7 := Lib.hid (Hgw6.out.below hb)
  have Haw7 := Lib.hid (Haw6.out.below hb)
  have Hbw7 := Lib.hid (Hbw6.out.below hb)
  have HBw7 := Lib.hid (HBw6.out.trans (hb.mono HBw6.out.size))
  clear qg0 qg1 qg2 qg3 qg4
  clear hb y1c y2c
  go_wp2_with (refine wpList_new (x := z) 12 39 rfl rfl rfl rfl Y1c.out Y2c.out y3c y4c y5c y6c ?_; intro w8 hb hd; have NEdc := Lib.hid (Nat.ne_of_lt Hdw7.out.lt); have NEcd := Lib.hid (Nat.ne_of_gt Hdw7.out.lt); have NEgc := Lib.hid (Nat.ne_of_lt Hgw7.out.lt); have NEcg := Lib.hid (Nat.ne_of_gt Hgw7.out.lt); have NEac := Lib.hid (Nat.ne_of_lt Haw7.out.lt); have NEca := Lib.hid (Nat.ne_of_gt Haw7.out.lt); have NEbc := Lib.hid (Nat.ne_of_lt Hbw7.out.lt); have NEcb := Lib.hid (Nat.ne_of_gt Hbw7.out.lt); have Hdw8 := Lib.hid (Hdw7.out.below hb); have Hgw8 := Lib.hid (Hgw7.out.below hb); have Haw8 := Lib.hid (Haw7.out.below hb); have Hbw8 := Lib.hid (Hbw7.out.below hb); have HBw8 := Lib.hid (HBw7.out.trans (hb.mono HBw7.out.size)); have Hcw8 := Lib.hid hd; clear hb hd; have qd0 := Hdw8.out.box.c0; have qd1 := Hdw8.out.box.c1; have qd2 := Hdw8.out.box.c2; have qd3 := Hdw8.out.box.c3; have qd4 := Hdw8.out.box.c4)
  go_at_call 17
  refine (refFlushS Hdw8.out).mono ?_
  rw [Ez.out, Er.out]
  rintro e w9 ⟨Ae, ne, ce, Be, me, de, rfl, y1e, y2e, y3e, y4e, y5e, y6e, hb⟩
  have Y1e := Lib.hid y1e
  have Y2e := Lib.hid y2e
  have Hdw9 := Lib.hid (Hdw8.out.below hb)
  have Hgw9 := Lib.hid (Hgw8.out.below hb)
  have Haw9 := Lib.hid (Haw8.out.below hb)
  have Hbw9 := Lib.hid (Hbw8.out.below hb)
  have Hcw9 := Lib.hid (Hcw8.out.below hb)
  have HBw9 := Lib.hid (HBw8.out.trans (hb.mono HBw8.out.size))
  clear qd0 qd1 qd2 qd3 qd4
  clear hb y1e y2e
  go_wp2_with (refine wpList_new (x := z) 14 44 rfl rfl rfl rfl Y1e.out Y2e.out y3e y4e y5e y6e ?_; intro w10 hb hd; have NEde := Lib.hid (Nat.ne_of_lt Hdw9.out.lt); have NEed := Lib.hid (Nat.ne_of_gt Hdw9.out.lt); have NEge := Lib.hid (Nat.ne_of_lt Hgw9.out.lt); have NEeg := Lib.hid (Nat.ne_of_gt Hgw9.out.lt); have NEae := Lib.hid (Nat.ne_of_lt Haw9.out.lt); have NEea := Lib.hid (Nat.ne_of_gt Haw9.out.lt); have NEbe := Lib.hid (Nat.ne_of_lt Hbw9.out.lt); have NEeb := Lib.hid (Nat.ne_of_gt Hbw9.out.lt); have NEce := Lib.hid (Nat.ne_of_lt Hcw9.out.lt); have NEec := Lib.hid (Nat.ne_of_gt Hcw9.out.lt); have Hdw10 := Lib.hid (Hdw9.out.below hb); have Hgw10 := Lib.hid (Hgw9.out.below hb); have Haw10 := Lib.hid (Haw9.out.below hb); have Hbw10 := Lib.hid (Hbw9.out.below hb); have Hcw10 := Lib.hid (Hcw9.out.below hb); have HBw10 := Lib.hid (HBw9.out.trans (hb.mono HBw9.out.size)); have Hew10 := Lib.hid hd; clear hb hd; have qg0 := Hgw10.out.box.c0; have qg1 := Hgw10.out.box.c1; have qg2 := Hgw10.out.box.c2; have qg3 := Hgw10.out.box.c3; have qg4 := Hgw10.out.box.c4)
  go_at_call 18
  refine (readS num Hgw10.out).mono ?_
  rw [Ep.out, Eq.out]
  rintro e w11 ⟨rfl, hb⟩
  have Hdw11 := Lib.hid (Hdw10.out.below hb)
  have Hgw11 := Lib.hid (Hgw10.out.below hb)
  have Haw11 := Lib.hid (Haw10.out.below hb)
  have Hbw11 := Lib.hid (Hbw10.out.below hb)
  have Hcw11 := Lib.hid (Hcw10.out.below hb)
  have Hew11 := Lib.hid (Hew10.out.below hb)
  have HBw11 := Lib.hid (HBw10.out.trans (hb.mono HBw10.out.size))
  clear qg0 qg1 qg2 qg3 qg4
  clear hb
  have qd0 := Hdw11.out.box.c0
  have qd1 := Hdw11.out.box.c1
  have qd2 := Hdw11.out.box.c2
  have qd3 := Hdw11.out.box.c3
  have qd4 := Hdw11.out.box.c4
  go_wp2_with fail
  go_at_call 19
  refine (refReadS num Hdw11.out).mono ?_
  rw [Ep.out, Eq.out]
  rintro e w12 ⟨rfl, hb⟩
  have Hdw12 := Lib.hid (Hdw11.out.below hb)
  have Hgw12 := Lib.hid (Hgw11.out.below hb)
  have Haw12 := Lib.hid (Haw11.out.below hb)
  have Hbw12 := Lib.hid (Hbw11.out.below hb)
  have Hcw12 := Lib.hid (Hcw11.out.below hb)
  have Hew12 := Lib.hid (Hew11.out.below hb)
  have HBw12 := Lib.hid (HBw11.out.trans (hb.mono HBw11.out.size))
  clear qd0 qd1 qd2 qd3 qd4
  clear hb
  go_wp2_with fail
  refine wp_region_G (fun w' => Below w12.heap.size w12 w') (by kernel_rfl) (by kernel_rfl) (Below.refl _ _).drew ?_
  refine wpG_call (.bool true) 20 #[] rfl (by rfl) (fun w' => by go_simp) (fun w' hS => (lives_true _).mono fun e w2 h => ⟨h.1, hS.trans (h.2.mono hS.size)⟩) ?_
  simp only [List.setIfInBounds_toArray, List.set_cons_zero, List.set_cons_succ]
  refine wpG_val (.bool true) rfl (by rfl) (fun w' hS => by go_simp) ?_
  simp only [List.setIfInBounds_toArray, List.set_cons_zero, List.set_cons_succ]
  refine wpG_val (.agg ([.int .u32 y.N, .slice Aa na ca, .slice Ba ma da, .bool y.dn, .int .i64 y.fu] : List Value).toArray) rfl (by rfl) (fun w' hS => load_run 25 (.tmp 8) rfl (w3.heap.size) 0 rfl [.int .u32 y.N, .slice Aa na ca, .slice Ba ma da, .bool y.dn, .int .i64 y.fu] _ (Haw12.out.below hS).box.range Tryd.underlying25 rfl (by kernel_rfl)) ?_
  simp only [List.setIfInBounds_toArray, List.set_cons_zero, List.set_cons_succ]
  refine wpG_val (.agg ([.int .u32 y.N, .slice Ab nb cb, .slice Bb mb db, .bool y.dn, .int .i64 y.fu] : List Value).toArray) rfl (by rfl) (fun w' hS => load_run 25 (.tmp 10) rfl (w5.heap.size) 0 rfl [.int .u32 y.N, .slice Ab nb cb, .slice Bb mb db, .bool y.dn, .int .i64 y.fu] _ (Hbw12.out.below hS).box.range Tryd.underlying25 rfl (by kernel_rfl)) ?_
  simp only [List.setIfInBounds_toArray, List.set_cons_zero, List.set_cons_succ]
  refine wpG_call (.bool true) 21 #[.agg ([.int .u32 y.N, .slice Aa na ca, .slice Ba ma da, .bool y.dn, .int .i64 y.fu] : List Value).toArray, .agg ([.int .u32 y.N, .slice Ab nb cb, .slice Bb mb db, .bool y.dn, .int .i64 y.fu] : List Value).toArray] rfl (by rfl) (fun w' => by go_simp) (fun w' hS => (sameS (Haw12.out.below hS) (Hbw12.out.below hS)).mono fun e w2 h => ⟨h.1, hS.trans (h.2.mono hS.size)⟩) ?_
  simp only [List.setIfInBounds_toArray, List.set_cons_zero, List.set_cons_succ]
  refine wpG_val (.bool true) rfl (by rfl) (fun w' hS => by go_simp) ?_
  simp only [List.setIfInBounds_toArray, List.set_cons_zero, List.set_cons_succ]
  refine wpG_val (.bool true) rfl (by rfl) (fun w' hS => by go_simp) ?_
  simp only [List.setIfInBounds_toArray, List.set_cons_zero, List.set_cons_succ]
  refine wpG_val (.int .i64 o) rfl (by rfl) (fun w' hS => by go_simp) ?_
  simp only [List.setIfInBounds_toArray, List.set_cons_zero, List.set_cons_succ]
  refine wpG_val (.int .i64 o) rfl (by rfl) (fun w' hS => by go_simp) ?_
  simp only [List.setIfInBounds_toArray, List.set_cons_zero, List.set_cons_succ]
  refine wpG_val (.bool true) rfl (by rfl) (fun w' hS => by go_simp) ?_
  simp only [List.setIfInBounds_toArray, List.set_cons_zero, List.set_cons_succ]
  refine wpG_val (.bool true) rfl (by rfl) (fun w' hS => by go_simp) ?_
  simp only [List.setIfInBounds_toArray, List.set_cons_zero, List.set_cons_succ]
  refine wpG_val (.bool true) rfl (by rfl) (fun w' hS => by go_simp) ?_
  simp only [List.setIfInBounds_toArray, List.set_cons_zero, List.set_cons_succ]
  refine wpG_val (.agg ([.int .u32 z.N, .slice Ac nc cc, .slice Bc mc dc, .bool z.dn, .int .i64 z.fu] : List Value).toArray) rfl (by rfl) (fun w' hS => load_run 25 (.tmp 12) rfl (w7.heap.size) 0 rfl [.int .u32 z.N, .slice Ac nc cc, .slice Bc mc dc, .bool z.dn, .int .i64 z.fu] _ (Hcw12.out.below hS).box.range Tryd.underlying25 rfl (by kernel_rfl)) ?_
  simp only [List.setIfInBounds_toArray, List.set_cons_zero, List.set_cons_succ]
  refine wpG_val (.agg ([.int .u32 z.N, .slice Ae ne ce, .slice Be me de, .bool z.dn, .int .i64 z.fu] : List Value).toArray) rfl (by rfl) (fun w' hS => load_run 25 (.tmp 14) rfl (w9.heap.size) 0 rfl [.int .u32 z.N, .slice Ae ne ce, .slice Be me de, .bool z.dn, .int .i64 z.fu] _ (Hew12.out.below hS).box.range Tryd.underlying25 rfl (by kernel_rfl)) ?_
  simp only [List.setIfInBounds_toArray, List.set_cons_zero, List.set_cons_succ]
  refine wpG_call (.bool true) 21 #[.agg ([.int .u32 z.N, .slice Ac nc cc, .slice Bc mc dc, .bool z.dn, .int .i64 z.fu] : List Value).toArray, .agg ([.int .u32 z.N, .slice Ae ne ce, .slice Be me de, .bool z.dn, .int .i64 z.fu] : List Value).toArray] rfl (by rfl) (fun w' => by go_simp) (fun w' hS => (sameS (Hcw12.out.below hS) (Hew12.out.below hS)).mono fun e w2 h => ⟨h.1, hS.trans (h.2.mono hS.size)⟩) ?_
  simp only [List.setIfInBounds_toArray, List.set_cons_zero, List.set_cons_succ]
  refine wpG_val (.bool true) rfl (by rfl) (fun w' hS => by go_simp) ?_
  simp only [List.setIfInBounds_toArray, List.set_cons_zero, List.set_cons_succ]
  refine wpG_val (.bool true) rfl (by rfl) (fun w' hS => by go_simp) ?_
  simp only [List.setIfInBounds_toArray, List.set_cons_zero, List.set_cons_succ]
  refine wpG_val (.int .i64 r) rfl (by rfl) (fun w' hS => by go_simp) ?_
  simp only [List.setIfInBounds_toArray, List.set_cons_zero, List.set_cons_succ]
  refine wpG_val (.int .i64 r) rfl (by rfl) (fun w' hS => by go_simp) ?_
  simp only [List.setIfInBounds_toArray, List.set_cons_zero, List.set_cons_succ]
  refine wpG_val (.bool true) rfl (by rfl) (fun w' hS => by go_simp) ?_
  simp only [List.setIfInBounds_toArray, List.set_cons_zero, List.set_cons_succ]
  refine wpG_val (.bool true) rfl (by rfl) (fun w' hS => by go_simp) ?_
  simp only [List.setIfInBounds_toArray, List.set_cons_zero, List.set_cons_succ]
  refine wpG_val (.bool true) rfl (by rfl) (fun w' hS => by go_simp) ?_
  simp only [List.setIfInBounds_toArray, List.set_cons_zero, List.set_cons_succ]
  refine wpG_val (.string p) rfl (by rfl) (fun w' hS => by go_simp) ?_
  simp only [List.setIfInBounds_toArray, List.set_cons_zero, List.set_cons_succ]
  refine wpG_val (.string p) rfl (by rfl) (fun w' hS => by go_simp) ?_
  simp only [List.setIfInBounds_toArray, List.set_cons_zero, List.set_cons_succ]
  refine wpG_val (.bool true) rfl (by rfl) (fun w' hS => by go_simp) ?_
  simp only [List.setIfInBounds_toArray, List.set_cons_zero, List.set_cons_succ]
  refine wpG_val (.bool true) rfl (by rfl) (fun w' hS => by go_simp) ?_
  simp only [List.setIfInBounds_toArray, List.set_cons_zero, List.set_cons_succ]
  refine wpG_val (.bool true) rfl (by rfl) (fun w' hS => by go_simp) ?_
  simp only [List.setIfInBounds_toArray, List.set_cons_zero, List.set_cons_succ]
  refine wpG_val (.int .i64 q) rfl (by rfl) (fun w' hS => by go_simp) ?_
  simp only [List.setIfInBounds_toArray, List.set_cons_zero, List.set_cons_succ]
  refine wpG_val (.int .i64 q) rfl (by rfl) (fun w' hS => by go_simp) ?_
  simp only [List.setIfInBounds_toArray, List.set_cons_zero, List.set_cons_succ]
  refine wpG_val (.bool true) rfl (by rfl) (fun w' hS => by go_simp) ?_
  simp only [List.setIfInBounds_toArray, List.set_cons_zero, List.set_cons_succ]
  refine wpG_val (.bool true) rfl (by rfl) (fun w' hS => by go_simp) ?_
  simp only [List.setIfInBounds_toArray, List.set_cons_zero, List.set_cons_succ]
  refine wpG_val (.bool true) rfl (by rfl) (fun w' hS => by go_simp) ?_
  simp only [List.setIfInBounds_toArray, List.set_cons_zero, List.set_cons_succ]
  refine wpG_val (.agg ([.int .u32 x.N, .slice Ag ng cg, .slice Bg mg dg, .bool x.dn, .int .i64 x.fu] : List Value).toArray) rfl (by rfl) (fun w' hS => load_run 25 (.tmp 7) rfl (w1.heap.size) 0 rfl [.int .u32 x.N, .slice Ag ng cg, .slice Bg mg dg, .bool x.dn, .int .i64 x.fu] _ (Hgw12.out.below hS).box.range Tryd.underlying25 rfl (by kernel_rfl)) ?_
  simp only [List.setIfInBounds_toArray, List.set_cons_zero, List.set_cons_succ]
  refine wpG_call (.int .i64 u) 22 #[.agg ([.int .u32 x.N, .slice Ag ng cg, .slice Bg mg dg, .bool x.dn, .int .i64 x.fu] : List Value).toArray] rfl (by rfl) (fun w' => by go_simp) (fun w' hS => (Eu.out ▸ checkS (Hgw12.out.below hS)).mono fun e w2 h => ⟨h.1, hS.trans (h.2.mono hS.size)⟩) ?_
  simp only [List.setIfInBounds_toArray, List.set_cons_zero, List.set_cons_succ]
  refine wpG_val (.agg ([.int .u32 x.N, .slice A n c, .slice A' m c', .bool x.dn, .int .i64 x.fu] : List Value).toArray) rfl (by rfl) (fun w' hS => load_run 25 (.tmp 3) rfl (w.heap.size) 0 rfl [.int .u32 x.N, .slice A n c, .slice A' m c', .bool x.dn, .int .i64 x.fu] _ (Hdw12.out.below hS).box.range Tryd.underlying25 rfl (by kernel_rfl)) ?_
  simp only [List.setIfInBounds_toArray, List.set_cons_zero, List.set_cons_succ]
  refine wpG_call (.int .i64 u) 23 #[.agg ([.int .u32 x.N, .slice A n c, .slice A' m c', .bool x.dn, .int .i64 x.fu] : List Value).toArray] rfl (by rfl) (fun w' => by go_simp) (fun w' hS => (Eu.out ▸ refCheckS (Hdw12.out.below hS)).mono fun e w2 h => ⟨h.1, hS.trans (h.2.mono hS.size)⟩) ?_
  simp only [List.setIfInBounds_toArray, List.set_cons_zero, List.set_cons_succ]
  refine wpG_val (.bool true) rfl (by rfl) (fun w' hS => by go_simp) ?_
  simp only [List.setIfInBounds_toArray, List.set_cons_zero, List.set_cons_succ]
  refine wpG_val (.bool true) rfl (by rfl) (fun w' hS => by go_simp) ?_
  simp only [List.setIfInBounds_toArray, List.set_cons_zero, List.set_cons_succ]
  refine wpG_val (.bool true) rfl (by rfl) (fun w' hS => by go_simp) ?_
  simp only [List.setIfInBounds_toArray, List.set_cons_zero, List.set_cons_succ]
  refine wpG_val (.agg ([.int .u32 x.N, .slice Ag ng cg, .slice Bg mg dg, .bool x.dn, .int .i64 x.fu] : List Value).toArray) rfl (by rfl) (fun w' hS => load_run 25 (.tmp 7) rfl (w1.heap.size) 0 rfl [.int .u32 x.N, .slice Ag ng cg, .slice Bg mg dg, .bool x.dn, .int .i64 x.fu] _ (Hgw12.out.below hS).box.range Tryd.underlying25 rfl (by kernel_rfl)) ?_
  simp only [List.setIfInBounds_toArray, List.set_cons_zero, List.set_cons_succ]
  refine wpG_val (.agg ([.int .u32 x.N, .slice A n c, .slice A' m c', .bool x.dn, .int .i64 x.fu] : List Value).toArray) rfl (by rfl) (fun w' hS => load_run 25 (.tmp 3) rfl (w.heap.size) 0 rfl [.int .u32 x.N, .slice A n c, .slice A' m c', .bool x.dn, .int .i64 x.fu] _ (Hdw12.out.below hS).box.range Tryd.underlying25 rfl (by kernel_rfl)) ?_
  simp only [List.setIfInBounds_toArray, List.set_cons_zero, List.set_cons_succ]
  refine wpG_call (.bool true) 21 #[.agg ([.int .u32 x.N, .slice Ag ng cg, .slice Bg mg dg, .bool x.dn, .int .i64 x.fu] : List Value).toArray, .agg ([.int .u32 x.N, .slice A n c, .slice A' m c', .bool x.dn, .int .i64 x.fu] : List Value).toArray] rfl (by rfl) (fun w' => by go_simp) (fun w' hS => (sameS (Hgw12.out.below hS) (Hdw12.out.below hS)).mono fun e w2 h => ⟨h.1, hS.trans (h.2.mono hS.size)⟩) ?_
  simp only [List.setIfInBounds_toArray, List.set_cons_zero, List.set_cons_succ]
  refine wpG_val (.bool true) rfl (by rfl) (fun w' hS => by go_simp) ?_
  simp only [List.setIfInBounds_toArray, List.set_cons_zero, List.set_cons_succ]
  refine wpG_val (.bool true) rfl (by rfl) (fun w' hS => by go_simp) ?_
  simp only [List.setIfInBounds_toArray, List.set_cons_zero, List.set_cons_succ]
  refine wpG_nil ?_
  intro w' hS
  have HB9 := Lib.hid (HBw12.out.trans (hS.mono HBw12.out.size))
  clear hS
  go_wp2
  go_ret
  exact ⟨rfl, HB9.out⟩
end Go.Proofs.YtjkapmghifglcaaDoor.Dv
