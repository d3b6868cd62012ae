/- The walk of the law DevSafe. -/
import Derived.Test.YtjkapmghifglcaaDoorDwG
namespace Go.Proofs.YtjkapmghifglcaaDoor.Dv
set_option linter.unusedVariables false
open Go.ChangeShapes Go.WideShapes Go.ChangeAt Go.RowKit
open Ar Rg St
open BigFrame
/-- a device to which nothing was written of a block since -/
structure Safe (x : De) (num : Nat) (y : De) : Prop where
  rt : y.rt = true
  size : y.N = x.N
  med : y.D = x.D
  no : ∀ b ∈ y.W, b.n ≠ num
theorem Safe.start {x : De} {num : Nat} (h : x.rt = true) (hw : x.W = []) : Safe x num x := ⟨h, rfl, rfl, fun b hb => by rw [hw] at hb; cases hb⟩
theorem Safe.write {x y : De} {num n : Nat} {s : ByteArray} (h : Safe x num y) (hn : n ≠ num) : Safe x num (wrX y n s) := by
  have hr := wr_rt n s h.rt
  have e : wrX y n s = y ∨ wrX y n s = ⟨y.N, y.D, y.W ++ [⟨n, cutB s⟩], burnD y.dn y.fu, burnF y.fu⟩ := by
    unfold wrX
    rw [if_pos h.rt]
    split
    · exact .inl rfl
    · exact .inr rfl
  rcases e with e | e
  · rw [e]; exact h
  · refine ⟨hr, by rw [e]; exact h.size, by rw [e]; exact h.med, fun b hb => ?_⟩
    rw [e] at hb
    rcases List.mem_append.1 hb with hb | hb
    · exact h.no b hb
    · rw [List.mem_singleton.1 hb]; exact hn
theorem Safe.read {x y : De} {num : Nat} (h : Safe x num y) (hx : x.rt = true) (hd : x.dn = false) (hw : x.W = []) (kf : Nat → Bool) : rdO (crX y kf) num = rdO x num ∧ rdX (crX y kf) num = rdX x num := by
  have h1 : rdO (crX y kf) num = rdO x num := by rw [cr_rdO kf h.rt, rdO_up hx hd, h.size]
  refine ⟨h1, rdX_eq h1 ?_⟩
  rw [cr_has kf h.rt, has_val, hw, h.med, rdW_none fun b hb => h.no b (kpt_mem _ hb)]
  rfl
set_option maxRecDepth 100000 in
set_option maxHeartbeats 2000000 in
theorem devSafe_walk (w : World) (x : De) (A : Option Addr) (n c : Nat) (A' : Option Addr) (m c' : Nat) (h1 : SlB w A n c x.D) (h2 : SlB w A' m c' x.W) (ln : n ≤ 281474976710656) (lm : m ≤ 281474976710656) (lo : -9223372036854775808 ≤ x.fu) (hi : x.fu ≤ 9223372036854775807) (BL : List Bk) (AB : Option Addr) (nb cb : Nat) (hB : SlB w AB nb cb BL) (hBs : ∀ b ∈ BL, b.d.size ≤ maxLen) (KL : List Bool) (AK : Option Addr) (nk ck : Nat) (hK : SlK w AK nk KL) (num : Nat) :
    Calls Tryd.prog 5 #[.agg #[.int .u32 x.N, .slice A n c, .slice A' m c', .bool x.dn, .int .i64 x.fu], .slice AB nb cb, .slice AK nk ck, .int .u32 num] w fun e w' => e = .returned (.bool true) ∧ Below w.heap.size w w' := by
  obtain ⟨y, hy⟩ : ∃ y, flX x = y := ⟨_, rfl⟩
  have Ey := Lib.hid hy
  obtain ⟨o, ho⟩ : ∃ o, flO x = o := ⟨_, rfl⟩
  have Eo := Lib.hid ho
  by_cases ho : o = 0
  · subst ho
    have HX := Lib.hid (show y.rt = true ∧ y.dn = false ∧ y.W = [] from by rw [← Ey.out]; exact ⟨fl_rt (flO_zero Eo.out).1, by rw [fl_at Eo.out], by rw [fl_at Eo.out]⟩)
    clear ho hy
    have hnb : nb ≤ 9223372036854775807 := Nat.le_trans hB.2.1 hB.2.2.1
    have HBL := Lib.hid hB
    have HKL := Lib.hid hK
    have HBS := Lib.hid hBs
    clear hB hK hBs
    obtain ⟨k1, k2⟩ := DV.boxed h1 h2 ln lm lo hi
    have Hd0 := Lib.hid k1
    have HB0 := Lib.hid k2
    clear k1 k2
    go_enter Tryd.func5, Tryd.ntmps5
    go_wp2_with fail
    generalize w.alloc _ = w0 at *
    go_at_call 20
    refine (lives_true w0).mono ?_
    rintro e w1 ⟨rfl, hb⟩
    have Hdw1 := Lib.hid (Hd0.out.below hb)
    have HBw1 := Lib.hid (HB0.out.trans (hb.mono HB0.out.size))
    clear hb
    have qd0 := Hdw1.out.box.c0
    have qd1 := Hdw1.out.box.c1
    have qd2 := Hdw1.out.box.c2
    have qd3 := Hdw1.out.box.c3
    have qd4 := Hdw1.out.box.c4
    go_wp2_with fail
    go_at_call 16
    refine (flushS Hdw1.out).mono ?_
    rw [Ey.out, Eo.out]
    rintro e w2 ⟨Ar, nr, cr, Br, mr, dr, rfl, y1r, y2r, y3r, y4r, y5r, y6r, hb⟩
    have Y1r := Lib.hid y1r
    have Y2r := Lib.hid y2r
    have Hdw2 := Lib.hid (Hdw1.out.below hb)
    have HBw2 := Lib.hid (HBw1.out.trans (hb.mono HBw1.out.size))
    clear qd0 qd1 qd2 qd3 qd4
    clear hb y1r y2r
    go_wp2_with (refine wpList_over Hdw2.out (x := y) 4 23 rfl rfl rfl rfl Y1r.out Y2r.out y3r y4r y5r y6r ?_; intro w3 ho hd; have HBw3 := Lib.hid (below_over HBw2.out (Nat.le_refl _) ho); have Hdw3 := Lib.hid hd; clear ho hd; have qd0 := Hdw3.out.box.c0; have qd1 := Hdw3.out.box.c1; have qd2 := Hdw3.out.box.c2; have qd3 := Hdw3.out.box.c3; have qd4 := Hdw3.out.box.c4)
    go_at_call 18
    refine (readS num Hdw3.out).mono ?_
    rintro e w4 ⟨rfl, hb⟩
    have Hdw4 := Lib.hid (Hdw3.out.below hb)
    have HBw4 := Lib.hid (HBw3.out.trans (hb.mono HBw3.out.size))
    clear qd0 qd1 qd2 qd3 qd4
    clear hb
    go_wp2_with fail
    go_loopw [35] (fun v wr => ∃ i : Nat, i ≤ nb ∧ v = .int .i64 i ∧ Hid (Below w.heap.size w wr) ∧ Hid (∃ z A n c A' m c', Safe y num z ∧ DV wr w.heap.size A n c A' m c' z)) (fun v _ => nb - (intOf v).toNat)
    case atStart => exact ⟨0, Nat.zero_le _, by go_num, HBw4.out, ⟨y, _, _, _, _, _, _, Safe.start HX.out.1 HX.out.2.2, Hdw4.out⟩⟩
    case round =>
      clear HBw4 Hdw4 Hd0 HB0 Eo Ey h1 h2 ln lm lo hi
      obtain ⟨i, hi, rfl, hbel, hex⟩ := hrel
      obtain ⟨z, A, n, c, A', m, c', hsf, hdv⟩ := Hid.out hex
      have HSF := Lib.hid hsf
      have HDr := Lib.hid hdv
      have HBr := Lib.hid (Hid.out hbel)
      clear hex hsf hdv hbel
      by_cases hlt : i < nb
      · obtain ⟨q, hq⟩ : ∃ q, BL[i]? = some q := ⟨_, List.getElem?_eq_getElem (by have h := HBL.out.1; omega)⟩
        have HQS := Lib.hid (HBS.out q (List.mem_of_getElem? hq))
        obtain ⟨b, g, hAe, hbb, hr⟩ : ∃ b g, AB = some ⟨b, g, none⟩ ∧ b < wr.heap.size ∧ wr.rangeAt b (g + i * 2) (enc q) := by
          obtain ⟨-, -, -, BB, hBB, hLL⟩ := HBL.out
          obtain ⟨b, g, e, hb, hr⟩ := (hLL.below (HBr.out.mono hBB)) i q hq
          exact ⟨b, g, e, Nat.lt_of_lt_of_le hb (Nat.le_trans hBB HBr.out.size), hr⟩
        have hc0 : wr.cell? ⟨b, g + i * 2, none⟩ = some (.int .u32 q.n) := hr 0 _ rfl
        have hc1 : wr.cell? ⟨b, g + i * 2 + 1, none⟩ = some (.string q.d) := hr 1 _ rfl
        subst hAe
        clear hr hq
        have hal : Below wr.heap.size wr (wr.alloc (.cells #[.int .u32 q.n, .string q.d] 41)) := (Below.refl _ _).alloc (Nat.le_refl _) _
        have Rqx := Lib.hid (heap_alloc_new wr (.cells #[.int .u32 q.n, .string q.d] 41))
        have Hdwa := Lib.hid (HDr.out.below hal)
        have HBwa := Lib.hid (HBr.out.trans (hal.mono HBr.out.size))
        have qd0 := Hdwa.out.box.c0
        have qd1 := Hdwa.out.box.c1
        have qd2 := Hdwa.out.box.c2
        have qd3 := Hdwa.out.box.c3
        have qd4 := Hdwa.out.box.c4
        have qq0 : (wr.alloc (.cells #[.int .u32 q.n, .string q.d] 41)).cell? ⟨wr.heap.size, 0, none⟩ = some (.int .u32 q.n) := cell_of_row _ _ 0 _ _ _ Rqx.out
        have qq1 : (wr.alloc (.cells #[.int .u32 q.n, .string q.d] 41)).cell? ⟨wr.heap.size, 1, none⟩ = some (.string q.d) := cell_of_row _ _ 1 _ _ _ Rqx.out
        clear hal
        by_cases h40 : i < 40
        · have h40q : decide ((i : Int) < 40) = true := decide_eq_true (by omega)
          by_cases hqn : q.n = num
          · have hqe : ((q.n : Int) != (num : Int)) = false := by rw [bne_eq_false_iff_eq]; exact congrArg Int.ofNat hqn
            clear hqn
            go_wp2
            exact ⟨⟨i + 1, by omega, by go_num, HBwa.out, ⟨z, _, _, _, _, _, _, HSF.out, Hdwa.out⟩⟩, by simp [intOf] <;> omega⟩
          · have hqe : ((q.n : Int) != (num : Int)) = true := by rw [bne_iff_ne]; exact fun e => hqn (Int.ofNat.inj e)
            have HNE := Lib.hid (hqn)
            clear hqn
            go_wp2_with fail
            generalize wr.alloc _ = wa at *
            go_at_call 14
            refine (writeS q.n q.d HQS.out Hdwa.out).mono ?_
            rintro e w5 ⟨Ae, ne, ce, Be, me, de, rfl, y1e, y2e, y3e, y4e, y5e, y6e, hb⟩
            have Y1e := Lib.hid y1e
            have Y2e := Lib.hid y2e
            have Hdw5 := Lib.hid (Hdwa.out.below hb)
            have Rqw5 := Lib.hid (below_row Rqx.out hb (heap_lt Rqx.out))
            have HBw5 := Lib.hid (HBwa.out.trans (hb.mono HBwa.out.size))
            clear qd0 qd1 qd2 qd3 qd4 qq0 qq1
            clear hb y1e y2e
            go_wp2_with (refine wpList_over Hdw5.out (x := wrX z q.n q.d) 4 55 rfl rfl rfl rfl Y1e.out Y2e.out y3e y4e y5e y6e ?_; intro w6 ho hd; have HBw6 := Lib.hid (below_over HBw5.out (Nat.le_refl _) ho); have Hdw6 := Lib.hid hd; clear ho hd)
            exact ⟨⟨i + 1, by omega, by go_num, HBw6.out, ⟨_, _, _, _, _, _, _, HSF.out.write HNE.out, Hdw6.out⟩⟩, by simp [intOf] <;> omega⟩
        · have h40q : decide ((i : Int) < 40) = false := decide_eq_false (by omega)
          go_wp2
          exact ⟨⟨i + 1, by omega, by go_num, HBwa.out, ⟨z, _, _, _, _, _, _, HSF.out, Hdwa.out⟩⟩, by simp [intOf] <;> omega⟩
      · have HCR := Lib.hid (HSF.out.read HX.out.1 HX.out.2.1 HX.out.2.2 (kp KL))
        have HCA := Lib.hid (cr_at (kp KL) HSF.out.rt)
        rw [HCA.out] at HCR
        have qd0 := HDr.out.box.c0
        have qd1 := HDr.out.box.c1
        have qd2 := HDr.out.box.c2
        have qd3 := HDr.out.box.c3
        have qd4 := HDr.out.box.c4
        go_wp2_with fail
        go_at_call 24
        refine (crashS KL (HKL.out.below HBr.out) HDr.out).mono ?_
        rw [HCA.out, chO_zero.2 HSF.out.rt]
        rintro e w5 ⟨Ac, nc, cc, Bc, mc, dc, rfl, y1c, y2c, y3c, y4c, y5c, y6c, hb⟩
        have Y1c := Lib.hid y1c
        have Y2c := Lib.hid y2c
        have Hdw5 := Lib.hid (HDr.out.below hb)
        have HBw5 := Lib.hid (HBr.out.trans (hb.mono HBr.out.size))
        clear qd0 qd1 qd2 qd3 qd4
        clear hb y1c y2c
        go_wp2_with (refine wpList_new (x := (⟨z.N, app z.D (kpt (kp KL) z.W z.W.length), [], false, -1⟩ : De)) 14 62 rfl rfl rfl rfl Y1c.out Y2c.out y3c y4c y5c y6c ?_; intro w6 hb hd; have NEde := Lib.hid (Nat.ne_of_lt Hdw5.out.lt); have NEed := Lib.hid (Nat.ne_of_gt Hdw5.out.lt); have Hdw6 := Lib.hid (Hdw5.out.below hb); have HBw6 := Lib.hid (HBw5.out.trans (hb.mono HBw5.out.size)); have Hew6 := Lib.hid hd; clear hb hd; have qe0 := Hew6.out.box.c0; have qe1 := Hew6.out.box.c1; have qe2 := Hew6.out.box.c2; have qe3 := Hew6.out.box.c3; have qe4 := Hew6.out.box.c4)
        go_at_call 18
        refine (readS num Hew6.out).mono ?_
        rw [HCR.out.1, HCR.out.2]
        rintro e w7 ⟨rfl, hb⟩
        have Hdw7 := Lib.hid (Hdw6.out.below hb)
        have Hew7 := Lib.hid (Hew6.out.below hb)
        have HBw7 := Lib.hid (HBw6.out.trans (hb.mono HBw6.out.size))
        clear qe0 qe1 qe2 qe3 qe4
        clear hb
        have qe0 := Hew7.out.box.c0
        have qe1 := Hew7.out.box.c1
        have qe2 := Hew7.out.box.c2
        have qe3 := Hew7.out.box.c3
        have qe4 := Hew7.out.box.c4
        have hz : mc = 0 := Y2c.out.1
        have hl2 : ((mc : Int) == 0) = true := by rw [beq_iff_eq]; omega
        clear hz
        go_wp2_with fail
        go_ret
        exact ⟨rfl, HBw7.out⟩
  · have hq : ¬ o = 0 := ho
    clear ho hy
    have hnb : nb ≤ 9223372036854775807 := Nat.le_trans hB.2.1 hB.2.2.1
    have HBL := Lib.hid hB
    have HKL := Lib.hid hK
    have HBS := Lib.hid hBs
    clear hB hK hBs
    obtain ⟨k1, k2⟩ := DV.boxed h1 h2 ln lm lo hi
    have Hd0 := Lib.hid k1
    have HB0 := Lib.hid k2
    clear k1 k2
    go_enter Tryd.func5, Tryd.ntmps5
    go_wp2_with fail
    generalize w.alloc _ = w0 at *
    go_at_call 20
    refine (lives_true w0).mono ?_
    rintro e w1 ⟨rfl, hb⟩
    have Hdw1 := Lib.hid (Hd0.out.below hb)
    have HBw1 := Lib.hid (HB0.out.trans (hb.mono HB0.out.size))
    clear hb
    have qd0 := Hdw1.out.box.c0
    have qd1 := Hdw1.out.box.c1
    have qd2 := Hdw1.out.box.c2
    have qd3 := Hdw1.out.box.c3
    have qd4 := Hdw1.out.box.c4
    go_wp2_with fail
    go_at_call 16
    refine (flushS Hdw1.out).mono ?_
    rw [Ey.out, Eo.out]
    rintro e w2 ⟨Ar, nr, cr, Br, mr, dr, rfl, y1r, y2r, y3r, y4r, y5r, y6r, hb⟩
    have Y1r := Lib.hid y1r
    have Y2r := Lib.hid y2r
    have Hdw2 := Lib.hid (Hdw1.out.below hb)
    have HBw2 := Lib.hid (HBw1.out.trans (hb.mono HBw1.out.size))
    clear qd0 qd1 qd2 qd3 qd4
    clear hb y1r y2r
    go_wp2_with (refine wpList_over Hdw2.out (x := y) 4 23 rfl rfl rfl rfl Y1r.out Y2r.out y3r y4r y5r y6r ?_; intro w3 ho hd; have HBw3 := Lib.hid (below_over HBw2.out (Nat.le_refl _) ho); have Hdw3 := Lib.hid hd; clear ho hd)
    go_ret
    exact ⟨rfl, HBw3.out⟩
end Go.Proofs.YtjkapmghifglcaaDoor.Dv
