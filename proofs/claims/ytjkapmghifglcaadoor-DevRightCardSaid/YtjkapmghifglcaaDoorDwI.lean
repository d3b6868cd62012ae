/- The walk of the law DevRight. -/
import Derived.Test.YtjkapmghifglcaaDoorDwG
namespace Go.Proofs.YtjkapmghifglcaaDoor.Dv
set_option linter.unusedVariables false
open Go.ChangeShapes Go.WideShapes Go.ChangeAt Go.RowKit
open Ar Rg St
open BigFrame
set_option maxRecDepth 100000 in
set_option maxHeartbeats 2000000 in
theorem devRight_walk (w : World) (x : De) (A : Option Addr) (n c : Nat) (A' : Option Addr) (m c' : Nat) (h1 : SlB w A n c x.D) (h2 : SlB w A' m c' x.W) (ln : n ≤ 281474976710656) (lm : m ≤ 281474976710656) (lo : -9223372036854775808 ≤ x.fu) (hi : x.fu ≤ 9223372036854775807) (BL : List Bk) (AB : Option Addr) (nb cb : Nat) (hB : SlB w AB nb cb BL) (hBs : ∀ b ∈ BL, b.d.size ≤ maxLen) (KL : List Bool) (AK : Option Addr) (nk ck : Nat) (hK : SlK w AK nk KL) :
    Calls Tryd.prog 9 #[.agg #[.int .u32 x.N, .slice A n c, .slice A' m c', .bool x.dn, .int .i64 x.fu], .slice AB nb cb, .slice AK nk ck] w fun e w' => e = .returned (.bool true) ∧ Below w.heap.size w w' := by
  obtain ⟨o, ho⟩ : ∃ o, chO x = o := ⟨_, rfl⟩
  have Eo := Lib.hid ho
  by_cases ho : o = 0
  · subst ho
    have HRT := Lib.hid (chO_zero.1 Eo.out)
    clear ho
    have hnb : nb ≤ 9223372036854775807 := Nat.le_trans hB.2.1 hB.2.2.1
    have HBL := Lib.hid hB
    have HKL := Lib.hid hK
    have HBS := Lib.hid hBs
    clear hB hK hBs
    obtain ⟨k1, k2⟩ := DV.boxed h1 h2 ln lm lo hi
    have Hd0 := Lib.hid k1
    have HB0 := Lib.hid k2
    clear k1 k2
    go_enter Tryd.func9, Tryd.ntmps9
    go_wp2_with fail
    generalize w.alloc _ = w0 at *
    go_at_call 20
    refine (lives_true w0).mono ?_
    rintro e w1 ⟨rfl, hb⟩
    have Hdw1 := Lib.hid (Hd0.out.below hb)
    have HBw1 := Lib.hid (HB0.out.trans (hb.mono HB0.out.size))
    clear hb
    have qd0 := Hdw1.out.box.c0
    have qd1 := Hdw1.out.box.c1
    have qd2 := Hdw1.out.box.c2
    have qd3 := Hdw1.out.box.c3
    have qd4 := Hdw1.out.box.c4
    go_wp2_with fail
    go_at_call 22
    refine (checkS Hdw1.out).mono ?_
    rw [Eo.out]
    rintro e w2 ⟨rfl, hb⟩
    have Hdw2 := Lib.hid (Hdw1.out.below hb)
    have HBw2 := Lib.hid (HBw1.out.trans (hb.mono HBw1.out.size))
    clear qd0 qd1 qd2 qd3 qd4
    clear hb
    go_wp2_with fail
    go_loopw [24] (fun v wr => ∃ i : Nat, i ≤ nb ∧ v = .int .i64 i ∧ Hid (Below w.heap.size w wr) ∧ Hid (∃ y A n c A' m c', De.rt y = true ∧ DV wr w.heap.size A n c A' m c' y)) (fun v _ => nb - (intOf v).toNat)
    case atStart => exact ⟨0, Nat.zero_le _, by go_num, HBw2.out, ⟨x, _, _, _, _, _, _, HRT.out, Hdw2.out⟩⟩
    case round =>
      clear HBw2 Hdw2 Hd0 HB0 HRT Eo h1 h2 ln lm lo hi
      obtain ⟨i, hi, rfl, hbel, hex⟩ := hrel
      obtain ⟨y, A, n, c, A', m, c', hrt, hdv⟩ := Hid.out hex
      have HRT := Lib.hid hrt
      have HDr := Lib.hid hdv
      have HBr := Lib.hid (Hid.out hbel)
      clear hex hrt hdv hbel
      by_cases hlt : i < nb
      · obtain ⟨q, hq⟩ : ∃ q, BL[i]? = some q := ⟨_, List.getElem?_eq_getElem (by have h := HBL.out.1; omega)⟩
        have HQS := Lib.hid (HBS.out q (List.mem_of_getElem? hq))
        obtain ⟨b, z, hAe, hbb, hr⟩ : ∃ b z, AB = some ⟨b, z, none⟩ ∧ b < wr.heap.size ∧ wr.rangeAt b (z + i * 2) (enc q) := by
          obtain ⟨-, -, -, BB, hBB, hLL⟩ := HBL.out
          obtain ⟨b, z, e, hb, hr⟩ := (hLL.below (HBr.out.mono hBB)) i q hq
          exact ⟨b, z, e, Nat.lt_of_lt_of_le hb (Nat.le_trans hBB HBr.out.size), hr⟩
        have hc0 : wr.cell? ⟨b, z + i * 2, none⟩ = some (.int .u32 q.n) := hr 0 _ rfl
        have hc1 : wr.cell? ⟨b, z + i * 2 + 1, none⟩ = some (.string q.d) := hr 1 _ rfl
        subst hAe
        clear hr hq
        have hal : Below wr.heap.size wr (wr.alloc (.cells #[.int .u32 q.n, .string q.d] 41)) := (Below.refl _ _).alloc (Nat.le_refl _) _
        have Rqx := Lib.hid (heap_alloc_new wr (.cells #[.int .u32 q.n, .string q.d] 41))
        by_cases h30 : i = 30
        · subst h30
          have HB9 := Lib.hid (HBr.out.trans (hal.mono HBr.out.size))
          clear hal
          go_wp2
          go_ret
          exact ⟨rfl, HB9.out⟩
        · have h30q : decide ((i : Int) = 30) = false := decide_eq_false (by omega)
          have h30r : ((i : Int) == 30) = false := by rw [beq_eq_false_iff_ne]; omega
          have Hdwa := Lib.hid (HDr.out.below hal)
          have HBwa := Lib.hid (HBr.out.trans (hal.mono HBr.out.size))
          have qd0 := Hdwa.out.box.c0
          have qd1 := Hdwa.out.box.c1
          have qd2 := Hdwa.out.box.c2
          have qd3 := Hdwa.out.box.c3
          have qd4 := Hdwa.out.box.c4
          have qq0 : (wr.alloc (.cells #[.int .u32 q.n, .string q.d] 41)).cell? ⟨wr.heap.size, 0, none⟩ = some (.int .u32 q.n) := cell_of_row _ _ 0 _ _ _ Rqx.out
          have qq1 : (wr.alloc (.cells #[.int .u32 q.n, .string q.d] 41)).cell? ⟨wr.heap.size, 1, none⟩ = some (.string q.d) := cell_of_row _ _ 1 _ _ _ Rqx.out
          clear hal
          go_wp2_with fail
          generalize wr.alloc _ = wa at *
          go_at_call 14
          refine (writeS q.n q.d HQS.out Hdwa.out).mono ?_
          rintro e w3 ⟨Ae, ne, ce, Be, me, de, rfl, y1e, y2e, y3e, y4e, y5e, y6e, hb⟩
          have Y1e := Lib.hid y1e
          have Y2e := Lib.hid y2e
          have Hdw3 := Lib.hid (Hdwa.out.below hb)
          have Rqw3 := Lib.hid (below_row Rqx.out hb (heap_lt Rqx.out))
          have HBw3 := Lib.hid (HBwa.out.trans (hb.mono HBwa.out.size))
          clear qd0 qd1 qd2 qd3 qd4 qq0 qq1
          clear hb y1e y2e
          go_wp2_with (refine wpList_new (x := wrX y q.n q.d) 9 38 rfl rfl rfl rfl Y1e.out Y2e.out y3e y4e y5e y6e ?_; intro w4 hb hd; have NEde := Lib.hid (Nat.ne_of_lt Hdw3.out.lt); have NEed := Lib.hid (Nat.ne_of_gt Hdw3.out.lt); have Hdw4 := Lib.hid (Hdw3.out.below hb); have Rqw4 := Lib.hid (below_row Rqw3.out hb (heap_lt Rqw3.out)); have HBw4 := Lib.hid (HBw3.out.trans (hb.mono HBw3.out.size)); have Hew4 := Lib.hid hd; clear hb hd; have qe0 := Hew4.out.box.c0; have qe1 := Hew4.out.box.c1; have qe2 := Hew4.out.box.c2; have qe3 := Hew4.out.box.c3; have qe4 := Hew4.out.box.c4; have qq0 : w4.cell? ⟨wr.heap.size, 0, none⟩ = some (.int .u32 q.n) := cell_of_row _ _ 0 _ _ _ Rqw4.out; have qq1 : w4.cell? ⟨wr.heap.size, 1, none⟩ = some (.string q.d) := cell_of_row _ _ 1 _ _ _ Rqw4.out)
          go_at_call 26
          refine (spoilS q.n q.d HQS.out Hew4.out).mono ?_
          rintro e w5 ⟨Af, nf, cf, Bf, mf, df, rfl, y1f, y2f, y3f, y4f, y5f, y6f, hb⟩
          have Y1f := Lib.hid y1f
          have Y2f := Lib.hid y2f
          have Hdw5 := Lib.hid (Hdw4.out.below hb)
          have Hew5 := Lib.hid (Hew4.out.below hb)
          have Rqw5 := Lib.hid (below_row Rqw4.out hb (heap_lt Rqw4.out))
          have HBw5 := Lib.hid (HBw4.out.trans (hb.mono HBw4.out.size))
          clear qe0 qe1 qe2 qe3 qe4 qq0 qq1
          clear hb y1f y2f
          go_wp2_with (refine wpList_new (x := spX (wrX y q.n q.d) q.n q.d) 11 47 rfl rfl rfl rfl Y1f.out Y2f.out y3f y4f y5f y6f ?_; intro w6 hb hd; have NEdf := Lib.hid (Nat.ne_of_lt Hdw5.out.lt); have NEfd := Lib.hid (Nat.ne_of_gt Hdw5.out.lt); have NEef := Lib.hid (Nat.ne_of_lt Hew5.out.lt); have NEfe := Lib.hid (Nat.ne_of_gt Hew5.out.lt); have Hdw6 := Lib.hid (Hdw5.out.below hb); have Hew6 := Lib.hid (Hew5.out.below hb); have Rqw6 := Lib.hid (below_row Rqw5.out hb (heap_lt Rqw5.out)); have HBw6 := Lib.hid (HBw5.out.trans (hb.mono HBw5.out.size)); have Hfw6 := Lib.hid hd; clear hb hd; have qf0 := Hfw6.out.box.c0; have qf1 := Hfw6.out.box.c1; have qf2 := Hfw6.out.box.c2; have qf3 := Hfw6.out.box.c3; have qf4 := Hfw6.out.box.c4)
          go_at_call 16
          refine (flushS Hfw6.out).mono ?_
          rintro e w7 ⟨Ag, ng, cg, Bg, mg, dg, rfl, y1g, y2g, y3g, y4g, y5g, y6g, hb⟩
          have Y1g := Lib.hid y1g
          have Y2g := Lib.hid y2g
          have Hdw7 := Lib.hid (Hdw6.out.below hb)
          have Hew7 := Lib.hid (Hew6.out.below hb)
          have Hfw7 := Lib.hid (Hfw6.out.below hb)
          have Rqw7 := Lib.hid (below_row Rqw6.out hb (heap_lt Rqw6.out))
          have HBw7 := Lib.hid (HBw6.out.trans (hb.mono HBw6.out.size))
          clear qf0 qf1 qf2 qf3 qf4
          clear hb y1g y2g
          go_wp2_with (refine wpList_new (x := flX (spX (wrX y q.n q.d) q.n q.d)) 13 52 rfl rfl rfl rfl Y1g.out Y2g.out y3g y4g y5g y6g ?_; intro w8 hb hd; have NEdg := Lib.hid (Nat.ne_of_lt Hdw7.out.lt); have NEgd := Lib.hid (Nat.ne_of_gt Hdw7.out.lt); have NEeg := Lib.hid (Nat.ne_of_lt Hew7.out.lt); have NEge := Lib.hid (Nat.ne_of_gt Hew7.out.lt); have NEfg := Lib.hid (Nat.ne_of_lt Hfw7.out.lt); have NEgf := Lib.hid (Nat.ne_of_gt Hfw7.out.lt); have Hdw8 := Lib.hid (Hdw7.out.below hb); have Hew8 := Lib.hid (Hew7.out.below hb); have Hfw8 := Lib.hid (Hfw7.out.below hb); have Rqw8 := Lib.hid (below_row Rqw7.out hb (heap_lt Rqw7.out)); have HBw8 := Lib.hid (HBw7.out.trans (hb.mono HBw7.out.size)); have Hgw8 := Lib.hid hd; clear hb hd; have qf0 := Hfw8.out.box.c0; have qf1 := Hfw8.out.box.c1; have qf2 := Hfw8.out.box.c2; have qf3 := Hfw8.out.box.c3; have qf4 := Hfw8.out.box.c4)
          go_at_call 24
          refine (crashS KL (HKL.out.below HBw8.out) Hfw8.out).mono ?_
          rw [chO_zero.2 (sp_rt q.n q.d (wr_rt q.n q.d HRT.out))]
          rintro e w9 ⟨Ac, nc, cc, Bc, mc, dc, rfl, y1c, y2c, y3c, y4c, y5c, y6c, hb⟩
          have Y1c := Lib.hid y1c
          have Y2c := Lib.hid y2c
          have Hdw9 := Lib.hid (Hdw8.out.below hb)
          have Hew9 := Lib.hid (Hew8.out.below hb)
          have Hfw9 := Lib.hid (Hfw8.out.below hb)
          have Hgw9 := Lib.hid (Hgw8.out.below hb)
          have HBw9 := Lib.hid (HBw8.out.trans (hb.mono HBw8.out.size))
          clear qf0 qf1 qf2 qf3 qf4
          clear hb y1c y2c
          go_wp2_with (refine wpList_new (x := crX (spX (wrX y q.n q.d) q.n q.d) (kp KL)) 15 58 rfl rfl rfl rfl Y1c.out Y2c.out y3c y4c y5c y6c ?_; intro w10 hb hd; have NEdc := Lib.hid (Nat.ne_of_lt Hdw9.out.lt); have NEcd := Lib.hid (Nat.ne_of_gt Hdw9.out.lt); have NEec := Lib.hid (Nat.ne_of_lt Hew9.out.lt); have NEce := Lib.hid (Nat.ne_of_gt Hew9.out.lt); have NEfc := Lib.hid (Nat.ne_of_lt Hfw9.out.lt); have NEcf := Lib.hid (Nat.ne_of_gt Hfw9.out.lt); have NEgc := Lib.hid (Nat.ne_of_lt Hgw9.out.lt); have NEcg := Lib.hid (Nat.ne_of_gt Hgw9.out.lt); have Hdw10 := Lib.hid (Hdw9.out.below hb); have Hew10 := Lib.hid (Hew9.out.below hb); have Hfw10 := Lib.hid (Hfw9.out.below hb); have Hgw10 := Lib.hid (Hgw9.out.below hb); have HBw10 := Lib.hid (HBw9.out.trans (hb.mono HBw9.out.size)); have Hcw10 := Lib.hid hd; clear hb hd; have qe0 := Hew10.out.box.c0; have qe1 := Hew10.out.box.c1; have qe2 := Hew10.out.box.c2; have qe3 := Hew10.out.box.c3; have qe4 := Hew10.out.box.c4)
          go_at_call 22
          refine (checkS Hew10.out).mono ?_
          rw [chO_zero.2 (wr_rt q.n q.d HRT.out)]
          rintro e w11 ⟨rfl, hb⟩
          have Hdw11 := Lib.hid (Hdw10.out.below hb)
          have Hew11 := Lib.hid (Hew10.out.below hb)
          have Hfw11 := Lib.hid (Hfw10.out.below hb)
          have Hgw11 := Lib.hid (Hgw10.out.below hb)
          have Hcw11 := Lib.hid (Hcw10.out.below hb)
          have HBw11 := Lib.hid (HBw10.out.trans (hb.mono HBw10.out.size))
          clear qe0 qe1 qe2 qe3 qe4
          clear hb
          have qf0 := Hfw11.out.box.c0
          have qf1 := Hfw11.out.box.c1
          have qf2 := Hfw11.out.box.c2
          have qf3 := Hfw11.out.box.c3
          have qf4 := Hfw11.out.box.c4
          go_wp2_with fail
          go_at_call 22
          refine (checkS Hfw11.out).mono ?_
          rw [chO_zero.2 (sp_rt q.n q.d (wr_rt q.n q.d HRT.out))]
          rintro e w12 ⟨rfl, hb⟩
          have Hdw12 := Lib.hid (Hdw11.out.below hb)
          have Hew12 := Lib.hid (Hew11.out.below hb)
          have Hfw12 := Lib.hid (Hfw11.out.below hb)
          have Hgw12 := Lib.hid (Hgw11.out.below hb)
          have Hcw12 := Lib.hid (Hcw11.out.below hb)
          have HBw12 := Lib.hid (HBw11.out.trans (hb.mono HBw11.out.size))
          clear qf0 qf1 qf2 qf3 qf4
          clear hb
          have qg0 := Hgw12.out.box.c0
          have qg1 := Hgw12.out.box.c1
          have qg2 := Hgw12.out.box.c2
          have qg3 := Hgw12.out.box.c3
          have qg4 := Hgw12.out.box.c4
          go_wp2_with fail
          go_at_call 22
          refine (checkS Hgw12.out).mono ?_
          rw [chO_zero.2 (fl_rt (sp_rt q.n q.d (wr_rt q.n q.d HRT.out)))]
          rintro e w13 ⟨rfl, hb⟩
          have Hdw13 := Lib.hid (Hdw12.out.below hb)
          have Hew13 := Lib.hid (Hew12.out.below hb)
          have Hfw13 := Lib.hid (Hfw12.out.below hb)
          have Hgw13 := Lib.hid (Hgw12.out.below hb)
          have Hcw13 := Lib.hid (Hcw12.out.below hb)
          have HBw13 := Lib.hid (HBw12.out.trans (hb.mono HBw12.out.size))
          clear qg0 qg1 qg2 qg3 qg4
          clear hb
          have qc0 := Hcw13.out.box.c0
          have qc1 := Hcw13.out.box.c1
          have qc2 := Hcw13.out.box.c2
          have qc3 := Hcw13.out.box.c3
          have qc4 := Hcw13.out.box.c4
          go_wp2_with fail
          go_at_call 22
          refine (checkS Hcw13.out).mono ?_
          rw [chO_zero.2 (cr_rt (kp KL) (sp_rt q.n q.d (wr_rt q.n q.d HRT.out)))]
          rintro e w14 ⟨rfl, hb⟩
          have Hdw14 := Lib.hid (Hdw13.out.below hb)
          have Hew14 := Lib.hid (Hew13.out.below hb)
          have Hfw14 := Lib.hid (Hfw13.out.below hb)
          have Hgw14 := Lib.hid (Hgw13.out.below hb)
          have Hcw14 := Lib.hid (Hcw13.out.below hb)
          have HBw14 := Lib.hid (HBw13.out.trans (hb.mono HBw13.out.size))
          clear qc0 qc1 qc2 qc3 qc4
          clear hb
          have qe0 := Hew14.out.box.c0
          have qe1 := Hew14.out.box.c1
          have qe2 := Hew14.out.box.c2
          have qe3 := Hew14.out.box.c3
          have qe4 := Hew14.out.box.c4
          by_cases hod : i % 2 = 1
          · have ho1 : (((i : Int) % 2) == 1) = true := by rw [beq_iff_eq]; omega
            go_wp2_with (first | (refine wpList_over Hdw15.out (x := flX (spX (wrX y q.n q.d) q.n q.d)) 3 86 rfl rfl rfl rfl Hgw15.out.one Hgw15.out.two Hgw15.out.ln Hgw15.out.lm Hgw15.out.lo Hgw15.out.hi ?_; intro w16 ho hd; have Hew16 := Lib.hid (Hew15.out.over Hdw15.out NEed.out ho); have Hfw16 := Lib.hid (Hfw15.out.over Hdw15.out NEfd.out ho); have Hgw16 := Lib.hid (Hgw15.out.over Hdw15.out NEgd.out ho); have Hcw16 := Lib.hid (Hcw15.out.over Hdw15.out NEcd.out ho); have HBw16 := Lib.hid (below_over HBw15.out (Nat.le_refl _) ho); have Hdw16 := Lib.hid hd; clear qg0 qg1 qg2 qg3 qg4; clear ho hd) | (refine wpList_over Hdw14.out (x := wrX y q.n q.d) 3 82 rfl rfl rfl rfl Hew14.out.one Hew14.out.two Hew14.out.ln Hew14.out.lm Hew14.out.lo Hew14.out.hi ?_; intro w15 ho hd; have Hew15 := Lib.hid (Hew14.out.over Hdw14.out NEed.out ho); have Hfw15 := Lib.hid (Hfw14.out.over Hdw14.out NEfd.out ho); have Hgw15 := Lib.hid (Hgw14.out.over Hdw14.out NEgd.out ho); have Hcw15 := Lib.hid (Hcw14.out.over Hdw14.out NEcd.out ho); have HBw15 := Lib.hid (below_over HBw14.out (Nat.le_refl _) ho); have Hdw15 := Lib.hid hd; clear qe0 qe1 qe2 qe3 qe4; clear ho hd; have qg0 := Hgw15.out.box.c0; have qg1 := Hgw15.out.box.c1; have qg2 := Hgw15.out.box.c2; have qg3 := Hgw15.out.box.c3; have qg4 := Hgw15.out.box.c4))
            exact ⟨⟨i + 1, by omega, by go_num, HBw16.out, ⟨_, _, _, _, _, _, _, fl_rt (sp_rt q.n q.d (wr_rt q.n q.d HRT.out)), Hdw16.out⟩⟩, by simp [intOf] <;> omega⟩
          · have ho1 : (((i : Int) % 2) == 1) = false := by rw [beq_eq_false_iff_ne]; omega
            go_wp2_with (refine wpList_over Hdw14.out (x := wrX y q.n q.d) 3 82 rfl rfl rfl rfl Hew14.out.one Hew14.out.two Hew14.out.ln Hew14.out.lm Hew14.out.lo Hew14.out.hi ?_; intro w15 ho hd; have Hew15 := Lib.hid (Hew14.out.over Hdw14.out NEed.out ho); have Hfw15 := Lib.hid (Hfw14.out.over Hdw14.out NEfd.out ho); have Hgw15 := Lib.hid (Hgw14.out.over Hdw14.out NEgd.out ho); have Hcw15 := Lib.hid (Hcw14.out.over Hdw14.out NEcd.out ho); have HBw15 := Lib.hid (below_over HBw14.out (Nat.le_refl _) ho); have Hdw15 := Lib.hid hd; clear qe0 qe1 qe2 qe3 qe4; clear ho hd)
            exact ⟨⟨i + 1, by omega, by go_num, HBw15.out, ⟨_, _, _, _, _, _, _, wr_rt q.n q.d HRT.out, Hdw15.out⟩⟩, by simp [intOf] <;> omega⟩
      · go_wp2
        go_ret
        exact ⟨rfl, HBr.out⟩
  · have hq : ¬ o = 0 := ho
    clear ho
    have hnb : nb ≤ 9223372036854775807 := Nat.le_trans hB.2.1 hB.2.2.1
    have HBL := Lib.hid hB
    have HKL := Lib.hid hK
    have HBS := Lib.hid hBs
    clear hB hK hBs
    obtain ⟨k1, k2⟩ := DV.boxed h1 h2 ln lm lo hi
    have Hd0 := Lib.hid k1
    have HB0 := Lib.hid k2
    clear k1 k2
    go_enter Tryd.func9, Tryd.ntmps9
    go_wp2_with fail
    generalize w.alloc _ = w0 at *
    go_at_call 20
    refine (lives_true w0).mono ?_
    rintro e w1 ⟨rfl, hb⟩
    have Hdw1 := Lib.hid (Hd0.out.below hb)
    have HBw1 := Lib.hid (HB0.out.trans (hb.mono HB0.out.size))
    clear hb
    have qd0 := Hdw1.out.box.c0
    have qd1 := Hdw1.out.box.c1
    have qd2 := Hdw1.out.box.c2
    have qd3 := Hdw1.out.box.c3
    have qd4 := Hdw1.out.box.c4
    go_wp2_with fail
    go_at_call 22
    refine (checkS Hdw1.out).mono ?_
    rw [Eo.out]
    rintro e w2 ⟨rfl, hb⟩
    have Hdw2 := Lib.hid (Hdw1.out.below hb)
    have HBw2 := Lib.hid (HBw1.out.trans (hb.mono HBw1.out.size))
    clear qd0 qd1 qd2 qd3 qd4
    clear hb
    go_wp2_with fail
    go_ret
    exact ⟨rfl, HBw2.out⟩
end Go.Proofs.YtjkapmghifglcaaDoor.Dv
