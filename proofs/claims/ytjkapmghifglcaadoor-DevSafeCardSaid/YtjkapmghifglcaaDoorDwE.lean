/- The walks of the laws DevLast and DevAgain. -/
import Derived.Test.YtjkapmghifglcaaDoorDwC
import Derived.Test.YtjkapmghifglcaaDoorDwD
namespace Go.Proofs.YtjkapmghifglcaaDoor.Dv
set_option linter.unusedVariables false
open Go.ChangeShapes Go.WideShapes Go.ChangeAt Go.RowKit
open Ar Rg St
open BigFrame
/-- a field that is put over -/
theorem grown_cell (w : World) (b o : Nat) (u : Value) : w.grownBy (w.setCell ⟨b, o, none⟩ u) (some b) := grown_setCell w ⟨b, o, none⟩ u
theorem SlB.off_row {w w' : World} {A : Option Addr} {n c : Nat} {D : List Bk} (h : SlB w A n c D) {b N : Nat} {A1 A2 : Option Addr} {n1 c1 n2 c2 : Nat} {dn : Bool} {fu : Int} {t : TypeId} (hr : w.heap[b]? = some (.cells (devC N (.slice A1 n1 c1) (.slice A2 n2 c2) dn fu) t (0, 0))) (hg : w.grownBy w' (some b)) : SlB w' A n c D := by
  obtain ⟨h1, h2, h3, B, hB, hL⟩ := h
  refine ⟨h1, h2, h3, B, Nat.le_trans hB hg.size, fun i x hx => ?_⟩
  obtain ⟨g, o, hA, hgl, hc⟩ := hL i x hx
  refine ⟨g, o, hA, hgl, ?_⟩
  have c0 : w.cell? ⟨g, o + i * 2, none⟩ = some (.int .u32 x.n) := hc 0 _ rfl
  have c1 : w.cell? ⟨g, o + i * 2 + 1, none⟩ = some (.string x.d) := hc 1 _ rfl
  have hne : g ≠ b := by
    intro e
    subst e
    rw [cell_of_row _ _ _ _ _ _ hr] at c0 c1
    generalize o + i * 2 = q at c0 c1
    match q with
    | 0 => simp at c1
    | 1 => simp at c0
    | 2 => simp at c0
    | 3 => simp at c0
    | 4 => simp at c0
    | q + 5 => simp at c0
  intro j v hv
  exact (World.cell?_of_block (a := ⟨g, o + i * 2 + j, none⟩) (hg.block g (World.block_lt_of_cell? w _ c0) (fun e => hne (by cases e; rfl)))).trans (hc j v hv)
theorem row_set4 {w : World} {b N : Nat} {v1 v2 : Value} {dn : Bool} {fu : Int} {t : TypeId} (h : w.heap[b]? = some (.cells (devC N v1 v2 dn fu) t (0, 0))) (f : Int) : (w.setCell ⟨b, 4, none⟩ (.int .i64 f)).heap[b]? = some (.cells (devC N v1 v2 dn f) t (0, 0)) := by
  simp [World.setCell, h, Array.getElem?_modify]
theorem DV.fuse {w : World} {b n c m c' : Nat} {A A' : Option Addr} {x : De} (h : DV w b A n c A' m c' x) (f : Int) (lo : -9223372036854775808 ≤ f) (hi : f ≤ 9223372036854775807) : DV (w.setCell ⟨b, 4, none⟩ (.int .i64 f)) b A n c A' m c' ⟨x.N, x.D, x.W, x.dn, f⟩ :=
  ⟨row_set4 h.row f, h.one.off_row h.row (grown_cell _ _ _ _), h.two.off_row h.row (grown_cell _ _ _ _), h.ln, h.lm, lo, hi⟩
set_option maxRecDepth 100000 in
set_option maxHeartbeats 2000000 in
theorem devLast_walk (w : World) (x : De) (A : Option Addr) (n c : Nat) (A' : Option Addr) (m c' : Nat) (h1 : SlB w A n c x.D) (h2 : SlB w A' m c' x.W) (ln : n ≤ 281474976710656) (lm : m ≤ 281474976710656) (lo : -9223372036854775808 ≤ x.fu) (hi : x.fu ≤ 9223372036854775807) (num : Nat) (s : ByteArray) (other : Nat) (hs : s.size ≤ 9223372036854775807) :
    Calls Tryd.prog 7 #[.agg #[.int .u32 x.N, .slice A n c, .slice A' m c', .bool x.dn, .int .i64 x.fu], .int .u32 num, .string s, .int .u32 other] w fun e w' => e = .returned (.bool true) ∧ Below w.heap.size w w' := by
  obtain ⟨y, hy⟩ : ∃ y, wrX x num s = y := ⟨_, rfl⟩
  have Ey := Lib.hid hy
  obtain ⟨o, ho⟩ : ∃ o, wrO x num s = o := ⟨_, rfl⟩
  have Eo := Lib.hid ho
  by_cases ho : o = 0
  · subst ho
    have HR := Lib.hid (wr_self Eo.out)
    by_cases hon : other = num
    · subst hon
      have hq : ((other : Int) == (other : Int)) = true := by rw [beq_iff_eq]
      clear hy ho
      obtain ⟨k1, k2⟩ := DV.boxed h1 h2 ln lm lo hi
      have Hd0 := Lib.hid k1
      have HB0 := Lib.hid k2
      clear k1 k2
      go_enter Tryd.func7, Tryd.ntmps7
      go_wp2_with fail
      generalize w.alloc _ = w0 at *
      go_at_call 20
      refine (lives_true w0).mono ?_
      rintro e w1 ⟨rfl, hb⟩
      have Hdw1 := Lib.hid (Hd0.out.below hb)
      have HBw1 := Lib.hid (HB0.out.trans (hb.mono HB0.out.size))
      clear hb
      have qd0 := Hdw1.out.box.c0
      have qd1 := Hdw1.out.box.c1
      have qd2 := Hdw1.out.box.c2
      have qd3 := Hdw1.out.box.c3
      have qd4 := Hdw1.out.box.c4
      go_wp2_with fail
      go_at_call 18
      refine (readS other Hdw1.out).mono ?_
      rintro e w2 ⟨rfl, hb⟩
      have Hdw2 := Lib.hid (Hdw1.out.below hb)
      have HBw2 := Lib.hid (HBw1.out.trans (hb.mono HBw1.out.size))
      clear qd0 qd1 qd2 qd3 qd4
      clear hb
      have qd0 := Hdw2.out.box.c0
      have qd1 := Hdw2.out.box.c1
      have qd2 := Hdw2.out.box.c2
      have qd3 := Hdw2.out.box.c3
      have qd4 := Hdw2.out.box.c4
      go_wp2_with fail
      go_at_call 14
      refine (writeS other s hs Hdw2.out).mono ?_
      rw [Ey.out, Eo.out]
      rintro e w3 ⟨Ar, nr, cr, Br, mr, dr, rfl, y1r, y2r, y3r, y4r, y5r, y6r, hb⟩
      have Y1r := Lib.hid y1r
      have Y2r := Lib.hid y2r
      have Hdw3 := Lib.hid (Hdw2.out.below hb)
      have HBw3 := Lib.hid (HBw2.out.trans (hb.mono HBw2.out.size))
      clear qd0 qd1 qd2 qd3 qd4
      clear hb y1r y2r
      go_wp2_with (refine wpList_new (x := y) 11 30 rfl rfl rfl rfl Y1r.out Y2r.out y3r y4r y5r y6r ?_; intro w4 hb hd; have Hdw4 := Lib.hid (Hdw3.out.below hb); have HBw4 := Lib.hid (HBw3.out.trans (hb.mono HBw3.out.size)); have Hew4 := Lib.hid hd; clear hb hd; have qe0 := Hew4.out.box.c0; have qe1 := Hew4.out.box.c1; have qe2 := Hew4.out.box.c2; have qe3 := Hew4.out.box.c3; have qe4 := Hew4.out.box.c4)
      go_at_call 18
      refine (readS other Hew4.out).mono ?_
      rw [show rdO y other = rdO x other by rw [← Ey.out]; exact wr_rdO Eo.out other]
      rintro e w5 ⟨rfl, hb⟩
      have Hdw5 := Lib.hid (Hdw4.out.below hb)
      have Hew5 := Lib.hid (Hew4.out.below hb)
      have HBw5 := Lib.hid (HBw4.out.trans (hb.mono HBw4.out.size))
      clear qe0 qe1 qe2 qe3 qe4
      clear hb
      have qe0 := Hew5.out.box.c0
      have qe1 := Hew5.out.box.c1
      have qe2 := Hew5.out.box.c2
      have qe3 := Hew5.out.box.c3
      have qe4 := Hew5.out.box.c4
      go_wp2_with fail
      go_at_call 18
      refine (readS other Hew5.out).mono ?_
      rw [show rdO y other = 0 by rw [← Ey.out]; exact HR.out.1, show rdX y other = cutB s by rw [← Ey.out]; exact HR.out.2]
      rintro e w6 ⟨rfl, hb⟩
      have Hdw6 := Lib.hid (Hdw5.out.below hb)
      have Hew6 := Lib.hid (Hew5.out.below hb)
      have HBw6 := Lib.hid (HBw5.out.trans (hb.mono HBw5.out.size))
      clear qe0 qe1 qe2 qe3 qe4
      clear hb
      go_wp2_with (go_at_call 28; refine (refCut_any s hs _).mono ?_; rintro e w' ⟨rfl, rfl⟩)
      go_ret
      exact ⟨rfl, HBw6.out⟩
    · have hq : ((other : Int) == (num : Int)) = false := by rw [beq_eq_false_iff_ne]; exact fun e => hon (Int.ofNat.inj e)
      have HN := Lib.hid hon
      clear hy ho hon
      obtain ⟨k1, k2⟩ := DV.boxed h1 h2 ln lm lo hi
      have Hd0 := Lib.hid k1
      have HB0 := Lib.hid k2
      clear k1 k2
      go_enter Tryd.func7, Tryd.ntmps7
      go_wp2_with fail
      generalize w.alloc _ = w0 at *
      go_at_call 20
      refine (lives_true w0).mono ?_
      rintro e w1 ⟨rfl, hb⟩
      have Hdw1 := Lib.hid (Hd0.out.below hb)
      have HBw1 := Lib.hid (HB0.out.trans (hb.mono HB0.out.size))
      clear hb
      have qd0 := Hdw1.out.box.c0
      have qd1 := Hdw1.out.box.c1
      have qd2 := Hdw1.out.box.c2
      have qd3 := Hdw1.out.box.c3
      have qd4 := Hdw1.out.box.c4
      go_wp2_with fail
      go_at_call 18
      refine (readS other Hdw1.out).mono ?_
      rintro e w2 ⟨rfl, hb⟩
      have Hdw2 := Lib.hid (Hdw1.out.below hb)
      have HBw2 := Lib.hid (HBw1.out.trans (hb.mono HBw1.out.size))
      clear qd0 qd1 qd2 qd3 qd4
      clear hb
      have qd0 := Hdw2.out.box.c0
      have qd1 := Hdw2.out.box.c1
      have qd2 := Hdw2.out.box.c2
      have qd3 := Hdw2.out.box.c3
      have qd4 := Hdw2.out.box.c4
      go_wp2_with fail
      go_at_call 14
      refine (writeS num s hs Hdw2.out).mono ?_
      rw [Ey.out, Eo.out]
      rintro e w3 ⟨Ar, nr, cr, Br, mr, dr, rfl, y1r, y2r, y3r, y4r, y5r, y6r, hb⟩
      have Y1r := Lib.hid y1r
      have Y2r := Lib.hid y2r
      have Hdw3 := Lib.hid (Hdw2.out.below hb)
      have HBw3 := Lib.hid (HBw2.out.trans (hb.mono HBw2.out.size))
      clear qd0 qd1 qd2 qd3 qd4
      clear hb y1r y2r
      go_wp2_with (refine wpList_new (x := y) 11 30 rfl rfl rfl rfl Y1r.out Y2r.out y3r y4r y5r y6r ?_; intro w4 hb hd; have Hdw4 := Lib.hid (Hdw3.out.below hb); have HBw4 := Lib.hid (HBw3.out.trans (hb.mono HBw3.out.size)); have Hew4 := Lib.hid hd; clear hb hd; have qe0 := Hew4.out.box.c0; have qe1 := Hew4.out.box.c1; have qe2 := Hew4.out.box.c2; have qe3 := Hew4.out.box.c3; have qe4 := Hew4.out.box.c4)
      go_at_call 18
      refine (readS other Hew4.out).mono ?_
      rw [show rdO y other = rdO x other by rw [← Ey.out]; exact wr_rdO Eo.out other, show rdX y other = rdX x other by rw [← Ey.out]; exact wr_other Eo.out HN.out]
      rintro e w5 ⟨rfl, hb⟩
      have Hdw5 := Lib.hid (Hdw4.out.below hb)
      have Hew5 := Lib.hid (Hew4.out.below hb)
      have HBw5 := Lib.hid (HBw4.out.trans (hb.mono HBw4.out.size))
      clear qe0 qe1 qe2 qe3 qe4
      clear hb
      have qe0 := Hew5.out.box.c0
      have qe1 := Hew5.out.box.c1
      have qe2 := Hew5.out.box.c2
      have qe3 := Hew5.out.box.c3
      have qe4 := Hew5.out.box.c4
      go_wp2_with fail
      go_at_call 18
      refine (readS num Hew5.out).mono ?_
      rw [show rdO y num = 0 by rw [← Ey.out]; exact HR.out.1, show rdX y num = cutB s by rw [← Ey.out]; exact HR.out.2]
      rintro e w6 ⟨rfl, hb⟩
      have Hdw6 := Lib.hid (Hdw5.out.below hb)
      have Hew6 := Lib.hid (Hew5.out.below hb)
      have HBw6 := Lib.hid (HBw5.out.trans (hb.mono HBw5.out.size))
      clear qe0 qe1 qe2 qe3 qe4
      clear hb
      go_wp2_with (go_at_call 28; refine (refCut_any s hs _).mono ?_; rintro e w' ⟨rfl, rfl⟩)
      go_ret
      exact ⟨rfl, HBw6.out⟩
  · have hq : ¬ o = 0 := ho
    clear hy ho
    obtain ⟨k1, k2⟩ := DV.boxed h1 h2 ln lm lo hi
    have Hd0 := Lib.hid k1
    have HB0 := Lib.hid k2
    clear k1 k2
    go_enter Tryd.func7, Tryd.ntmps7
    go_wp2_with fail
    generalize w.alloc _ = w0 at *
    go_at_call 20
    refine (lives_true w0).mono ?_
    rintro e w1 ⟨rfl, hb⟩
    have Hdw1 := Lib.hid (Hd0.out.below hb)
    have HBw1 := Lib.hid (HB0.out.trans (hb.mono HB0.out.size))
    clear hb
    have qd0 := Hdw1.out.box.c0
    have qd1 := Hdw1.out.box.c1
    have qd2 := Hdw1.out.box.c2
    have qd3 := Hdw1.out.box.c3
    have qd4 := Hdw1.out.box.c4
    go_wp2_with fail
    go_at_call 18
    refine (readS other Hdw1.out).mono ?_
    rintro e w2 ⟨rfl, hb⟩
    have Hdw2 := Lib.hid (Hdw1.out.below hb)
    have HBw2 := Lib.hid (HBw1.out.trans (hb.mono HBw1.out.size))
    clear qd0 qd1 qd2 qd3 qd4
    clear hb
    have qd0 := Hdw2.out.box.c0
    have qd1 := Hdw2.out.box.c1
    have qd2 := Hdw2.out.box.c2
    have qd3 := Hdw2.out.box.c3
    have qd4 := Hdw2.out.box.c4
    go_wp2_with fail
    go_at_call 14
    refine (writeS num s hs Hdw2.out).mono ?_
    rw [Ey.out, Eo.out]
    rintro e w3 ⟨Ar, nr, cr, Br, mr, dr, rfl, y1r, y2r, y3r, y4r, y5r, y6r, hb⟩
    have Y1r := Lib.hid y1r
    have Y2r := Lib.hid y2r
    have Hdw3 := Lib.hid (Hdw2.out.below hb)
    have HBw3 := Lib.hid (HBw2.out.trans (hb.mono HBw2.out.size))
    clear qd0 qd1 qd2 qd3 qd4
    clear hb y1r y2r
    go_wp2_with (refine wpList_new (x := y) 11 30 rfl rfl rfl rfl Y1r.out Y2r.out y3r y4r y5r y6r ?_; intro w4 hb hd; have Hdw4 := Lib.hid (Hdw3.out.below hb); have HBw4 := Lib.hid (HBw3.out.trans (hb.mono HBw3.out.size)); have Hew4 := Lib.hid hd; clear hb hd)
    go_ret
    exact ⟨rfl, HBw4.out⟩
end Go.Proofs.YtjkapmghifglcaaDoor.Dv
