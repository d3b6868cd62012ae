/- Appends of booleans; fields of a variable put over; the walk of the law DevSpoilt. -/
import Derived.Test.YtjkapmghifglcaaDoorDwE
namespace Go.Proofs.YtjkapmghifglcaaDoor.Dv
set_option linter.unusedVariables false
open Go.ChangeShapes Go.WideShapes Go.ChangeAt Go.RowKit
open Ar Rg St
open BigFrame
theorem infoK : (Tryd.prog.info? 4).map (fun i => (i.zero, i.size, i.bytes)) = some (some (.bool false), 1, 1) := by kernel_rfl
def encK (b : Bool) : List Value := [.bool b]
theorem encK_len (x : Bool) : (encK x).length = 1 := rfl
theorem encK_one (x : Bool) : ∀ u ∈ encK x, u.oneCell' = true := by
  intro v hv
  simp [encK] at hv
  subst hv; rfl
abbrev MkK (w wr : World) (v : Value) (D : List Bool) : Prop := Mk encK 1 4 w wr v D
theorem catK {ops : Array Oper} {rest : List Oper} {o : Oper} {a : Act} {Q : Exit → Act → World → Prop} {w wr : World} {v : Value} {D : List Bool} (hM : MkK w wr v D) (E : List Bool) (A : Option Addr) (m c : Nat) {B : Nat} (hm : m = E.length) (hL : Ls encK 1 wr B A E) (hlen : D.length + m ≤ 140737488355328)
    (hgd : o.guard = none) (s x : Operand) (ho : o.op = .call { callee := .builtin .append, args := #[s, x], argTypes := #[37, 37] }) (hs : a.eval s = v) (hx : a.eval x = .slice A m c)
    (h : ∀ v' w', MkK w w' v' (D ++ E) → wr.grownBy w' v.ownBlock → wpList Tryd.prog ops Q rest (a.put o.dst v') w') : wpList Tryd.prog ops Q (o :: rest) a wr := by
  obtain ⟨i0, hi, hz0, hz1, hz2⟩ := info_parts infoK
  exact wpList_cat 37 i0 _ 1 Tryd.underlying37 hi hz0 hz1 hz2 rfl (by decide) encK_len encK_one hM m c hm hL (by unfold maxLen; omega) (by omega) hgd s x ho hs hx h
theorem SlK.of_mk {w0 w : World} {D : List Bool} {v : Value} (h : MkK w0 w v D) : ∃ A n c, v = .slice A n c ∧ SlK w A n D := by
  obtain ⟨A, c, hv, h1, h2, h3⟩ := h.ls encK_len
  refine ⟨A, _, c, hv, rfl, fun j hj => ?_⟩
  obtain ⟨b, o, e, hb, hr⟩ := h3 j D[j] (List.getElem?_eq_getElem hj)
  exact ⟨b, o, e, hb, by have := hr 0 _ rfl; simpa using this⟩
theorem row_set3 {w : World} {b N : Nat} {v1 v2 : Value} {dn : Bool} {fu : Int} {t : TypeId} (h : w.heap[b]? = some (.cells (devC N v1 v2 dn fu) t (0, 0))) (q : Bool) : (w.setCell ⟨b, 3, none⟩ (.bool q)).heap[b]? = some (.cells (devC N v1 v2 q fu) t (0, 0)) := by
  simp [World.setCell, h, Array.getElem?_modify]
theorem row_set2 {w : World} {b N : Nat} {v1 v2 : Value} {dn : Bool} {fu : Int} {t : TypeId} (h : w.heap[b]? = some (.cells (devC N v1 v2 dn fu) t (0, 0))) (u : Value) : (w.setCell ⟨b, 2, none⟩ u).heap[b]? = some (.cells (devC N v1 u dn fu) t (0, 0)) := by
  simp [World.setCell, h, Array.getElem?_modify]
theorem DV.down {w : World} {b n c m c' : Nat} {A A' : Option Addr} {x : De} (h : DV w b A n c A' m c' x) (q : Bool) : DV (w.setCell ⟨b, 3, none⟩ (.bool q)) b A n c A' m c' ⟨x.N, x.D, x.W, q, x.fu⟩ :=
  ⟨row_set3 h.row q, h.one.off_row h.row (grown_cell _ _ _ _), h.two.off_row h.row (grown_cell _ _ _ _), h.ln, h.lm, h.lo, h.hi⟩
theorem DV.nowait {w : World} {b n c m c' : Nat} {A A' : Option Addr} {x : De} (h : DV w b A n c A' m c' x) : DV (w.setCell ⟨b, 2, none⟩ (.slice none 0 0)) b A n c none 0 0 ⟨x.N, x.D, [], x.dn, x.fu⟩ :=
  ⟨row_set2 h.row _, h.one.off_row h.row (grown_cell _ _ _ _), ⟨rfl, Nat.le_refl _, Nat.zero_le _, 0, Nat.zero_le _, Ls.nil⟩, h.ln, Nat.zero_le _, h.lo, h.hi⟩
theorem DV.aside {w w' : World} {b n c m c' : Nat} {A A' A1 A2 : Option Addr} {n1 c1 n2 c2 g : Nat} {x y : De} (h : DV w b A n c A' m c' x) (k : DV w g A1 n1 c1 A2 n2 c2 y) (hne : b ≠ g) (hg : w.grownBy w' (some g)) : DV w' b A n c A' m c' x :=
  ⟨(hg.block b h.lt (fun e => hne (by cases e; rfl))).trans h.row, h.one.off_row k.row hg, h.two.off_row k.row hg, h.ln, h.lm, h.lo, h.hi⟩
theorem below_of_grown2 {B g : Nat} {w0 w w' : World} (h : Below B w0 w) (hg : w.grownBy w' (some g)) (hB : B ≤ g) (hs : B ≤ w.heap.size) : Below B w0 w' := h.trans (below_of_grown hg hs hB)
set_option maxRecDepth 100000 in
set_option maxHeartbeats 4000000 in
theorem devSpoilt_walk (w : World) (x : De) (A : Option Addr) (n c : Nat) (A' : Option Addr) (m c' : Nat) (h1 : SlB w A n c x.D) (h2 : SlB w A' m c' x.W) (ln : n ≤ 281474976710656) (lm : m ≤ 281474976710656) (lo : -9223372036854775808 ≤ x.fu) (hi : x.fu ≤ 9223372036854775807) (num : Nat) (s : ByteArray) (other : Nat) (hs : s.size ≤ 9223372036854775807) :
    Calls Tryd.prog 10 #[.agg #[.int .u32 x.N, .slice A n c, .slice A' m c', .bool x.dn, .int .i64 x.fu], .int .u32 num, .string s, .int .u32 other] w fun e w' => e = .returned (.bool true) ∧ Below w.heap.size w w' := by
  obtain ⟨N, D, W, dn, fu⟩ := x
  dsimp only at h1 h2 lo hi ⊢
  obtain ⟨y, hy⟩ : ∃ y, spX ⟨N, D, W, dn, fu⟩ num s = y := ⟨_, rfl⟩
  have Ey := Lib.hid hy
  obtain ⟨o, ho⟩ : ∃ o, spO ⟨N, D, W, dn, fu⟩ num s = o := ⟨_, rfl⟩
  have Eo := Lib.hid ho
  by_cases ho : o = 0
  · subst ho
    cases dn
    · have HS := Lib.hid (fun hW => sp_self Eo.out rfl hW)
      clear hy ho
      by_cases hon : other = num
      · subst hon
        have hq : ((other : Int) != (other : Int)) = false := by rw [bne_eq_false_iff_eq]
        obtain ⟨k1, k2⟩ := DV.boxed (x := (⟨N, D, W, false, fu⟩ : De)) h1 h2 ln lm lo hi
        have Hd0 := Lib.hid k1
        have HB0 := Lib.hid k2
        clear k1 k2
        go_enter Tryd.func10, Tryd.ntmps10
        go_wp2_with fail
        generalize w.alloc _ = w0 at *
        go_at_call 20
        refine (lives_true w0).mono ?_
        rintro e w1 ⟨rfl, hb⟩
        have Hdw1 := Lib.hid (Hd0.out.below hb)
        have HBw1 := Lib.hid (HB0.out.trans (hb.mono HB0.out.size))
        clear hb
        have qd0 := Hdw1.out.box.c0
        have qd1 := Hdw1.out.box.c1
        have qd2 := Hdw1.out.box.c2
        have qd3 := Hdw1.out.box.c3
        have qd4 := Hdw1.out.box.c4
        go_wp2_with fail
        go_at_call 26
        refine (spoilS other s hs Hdw1.out).mono ?_
        rw [Ey.out, Eo.out]
        rintro e w2 ⟨Ar, nr, cr, Br, mr, dr, rfl, y1r, y2r, y3r, y4r, y5r, y6r, hb⟩
        have Y1r := Lib.hid y1r
        have Y2r := Lib.hid y2r
        have Hdw2 := Lib.hid (Hdw1.out.below hb)
        have HBw2 := Lib.hid (HBw1.out.trans (hb.mono HBw1.out.size))
        clear qd0 qd1 qd2 qd3 qd4
        clear hb y1r y2r
        go_wp2_with (refine wpList_new (x := y) 9 26 rfl rfl rfl rfl Y1r.out Y2r.out y3r y4r y5r y6r ?_; intro w3 hb hd; have NEde := Lib.hid (Nat.ne_of_lt Hdw2.out.lt); have NEed := Lib.hid (Nat.ne_of_gt Hdw2.out.lt); have Hdw3 := Lib.hid (Hdw2.out.below hb); have HBw3 := Lib.hid (HBw2.out.trans (hb.mono HBw2.out.size)); have Hew3 := Lib.hid hd; clear hb hd; have qd0 := Hdw3.out.box.c0; have qd1 := Hdw3.out.box.c1; have qd2 := Hdw3.out.box.c2; have qd3 := Hdw3.out.box.c3; have qd4 := Hdw3.out.box.c4)
        go_at_call 18
        refine (readS other Hdw3.out).mono ?_
        rintro e w4 ⟨rfl, hb⟩
        have Hdw4 := Lib.hid (Hdw3.out.below hb)
        have Hew4 := Lib.hid (Hew3.out.below hb)
        have HBw4 := Lib.hid (HBw3.out.trans (hb.mono HBw3.out.size))
        clear qd0 qd1 qd2 qd3 qd4
        clear hb
        have qe0 := Hew4.out.box.c0
        have qe1 := Hew4.out.box.c1
        have qe2 := Hew4.out.box.c2
        have qe3 := Hew4.out.box.c3
        have qe4 := Hew4.out.box.c4
        go_wp2_with fail
        go_at_call 18
        refine (readS other Hew4.out).mono ?_
        rw [show rdO y other = rdO (⟨N, D, W, false, fu⟩ : De) other by rw [← Ey.out]; exact sp_rdO Eo.out rfl other]
        rintro e w5 ⟨rfl, hb⟩
        have Hdw5 := Lib.hid (Hdw4.out.below hb)
        have Hew5 := Lib.hid (Hew4.out.below hb)
        have HBw5 := Lib.hid (HBw4.out.trans (hb.mono HBw4.out.size))
        clear qe0 qe1 qe2 qe3 qe4
        clear hb
        have qd0 := Hdw5.out.box.c0
        have qd1 := Hdw5.out.box.c1
        have qd2 := Hdw5.out.box.c2
        have qd3 := Hdw5.out.box.c3
        have qd4 := Hdw5.out.box.c4
        go_wp2_with fail
        clear qd0 qd1 qd2 qd3 qd4
        go_loopw [62] (fun v wr => ∃ i : Nat, i ≤ m ∧ v = .int .i64 i ∧ Hid (∀ b ∈ W.take i, b.n ≠ other) ∧ Hid (Below w5.heap.size w5 wr)) (fun v _ => m - (intOf v).toNat)
        case atStart => exact ⟨0, Nat.zero_le _, by go_num, fun b h => by simp at h, Below.refl _ _⟩
        case round =>
          obtain ⟨i, hi, rfl, hat, hbel⟩ := hrel
          have HN2 := Lib.hid Hdw5.out.two.1
          by_cases hlt : i < m
          · obtain ⟨q, hq⟩ : ∃ q, W[i]? = some q := ⟨_, List.getElem?_eq_getElem (by have h := HN2.out; dsimp only at h; omega)⟩
            obtain ⟨-, -, -, BB, hBB, hLL⟩ := Hdw5.out.two.below (Hid.out hbel)
            obtain ⟨b, z, hAe, hbb, hr⟩ := hLL i q hq
            have hbs : b < wr.heap.size := Nat.lt_of_lt_of_le hbb hBB
            have hc0 : wr.cell? ⟨b, z + i * 2, none⟩ = some (.int .u32 q.n) := hr 0 _ rfl
            have hc1 : wr.cell? ⟨b, z + i * 2 + 1, none⟩ = some (.string q.d) := hr 1 _ rfl
            subst hAe
            clear hr hLL
            have hd0 : (wr.alloc (.cells #[.int .u32 q.n, .string q.d] 41)).cell? ⟨wr.heap.size, 0, none⟩ = some (.int .u32 q.n) := by simp
            have HB9 := Lib.hid (show Below w5.heap.size w5 (wr.alloc (.cells #[.int .u32 q.n, .string q.d] 41)) from (Hid.out hbel).alloc (Hid.out hbel).size _)
            by_cases hqn : q.n = other
            · have hqe : ((q.n : Int) == (other : Int)) = true := by rw [beq_iff_eq]; exact congrArg Int.ofNat hqn
              have HB10 := Lib.hid (HBw5.out.trans (HB9.out.mono HBw5.out.size))
              clear hq hqn hat hbel
              go_wp2
              go_ret
              exact ⟨rfl, HB10.out⟩
            · have hqe : ((q.n : Int) == (other : Int)) = false := by rw [beq_eq_false_iff_ne]; exact fun e => hqn (Int.ofNat.inj e)
              have HAT := Lib.hid (show ∀ b ∈ W.take (i + 1), b.n ≠ other from fun b hb => by
                rw [take_snocB hq] at hb
                rcases List.mem_append.1 hb with h | h
                · exact Hid.out hat b h
                · rw [List.mem_singleton.1 h]; exact hqn)
              clear hq hqn hat hbel
              go_wp2
              exact ⟨⟨i + 1, by omega, by go_num, HAT.out, HB9.out⟩, by simp [intOf] <;> omega⟩
          · have HAT := Lib.hid (show ∀ b ∈ W, b.n ≠ other from fun b hb => Hid.out hat b (by rw [List.take_of_length_le (by have h := HN2.out; dsimp only at h; omega)]; exact hb))
            have HR := Lib.hid (HS.out HAT.out)
            have hbw := Hid.out hbel
            have Hdwr := Lib.hid (Hdw5.out.below hbw)
            have Hewr := Lib.hid (Hew5.out.below hbw)
            have HBwr := Lib.hid (HBw5.out.trans (hbw.mono HBw5.out.size))
            clear hat hbel hbw
            have qe0 := Hewr.out.box.c0
            have qe1 := Hewr.out.box.c1
            have qe2 := Hewr.out.box.c2
            have qe3 := Hewr.out.box.c3
            have qe4 := Hewr.out.box.c4
            go_wp2_with fail
            go_at_call 18
            refine (readS other Hewr.out).mono ?_
            rw [show rdO y other = 0 by rw [← Ey.out]; exact HR.out.1, show rdX y other = cutB s by rw [← Ey.out]; exact HR.out.2]
            rintro e w6 ⟨rfl, hb⟩
            have Hdw6 := Lib.hid (Hdwr.out.below hb)
            have Hew6 := Lib.hid (Hewr.out.below hb)
            have HBw6 := Lib.hid (HBwr.out.trans (hb.mono HBwr.out.size))
            clear qe0 qe1 qe2 qe3 qe4
            clear hb
            go_wp2_with (go_at_call 28; refine (refCut_any s hs _).mono ?_; rintro e w' ⟨rfl, rfl⟩)
            go_ret
            exact ⟨rfl, HBw6.out⟩
      · have hq : ((other : Int) != (num : Int)) = true := by rw [bne_iff_ne]; exact fun e => hon (Int.ofNat.inj e)
        have HN := Lib.hid hon
        clear hon
        obtain ⟨k1, k2⟩ := DV.boxed (x := (⟨N, D, W, false, fu⟩ : De)) h1 h2 ln lm lo hi
        have Hd0 := Lib.hid k1
        have HB0 := Lib.hid k2
        clear k1 k2
        go_enter Tryd.func10, Tryd.ntmps10
        go_wp2_with fail
        generalize w.alloc _ = w0 at *
        go_at_call 20
        refine (lives_true w0).mono ?_
        rintro e w1 ⟨rfl, hb⟩
        have Hdw1 := Lib.hid (Hd0.out.below hb)
        have HBw1 := Lib.hid (HB0.out.trans (hb.mono HB0.out.size))
        clear hb
        have qd0 := Hdw1.out.box.c0
        have qd1 := Hdw1.out.box.c1
        have qd2 := Hdw1.out.box.c2
        have qd3 := Hdw1.out.box.c3
        have qd4 := Hdw1.out.box.c4
        go_wp2_with fail
        go_at_call 26
        refine (spoilS num s hs Hdw1.out).mono ?_
        rw [Ey.out, Eo.out]
        rintro e w2 ⟨Ar, nr, cr, Br, mr, dr, rfl, y1r, y2r, y3r, y4r, y5r, y6r, hb⟩
        have Y1r := Lib.hid y1r
        have Y2r := Lib.hid y2r
        have Hdw2 := Lib.hid (Hdw1.out.below hb)
        have HBw2 := Lib.hid (HBw1.out.trans (hb.mono HBw1.out.size))
        clear qd0 qd1 qd2 qd3 qd4
        clear hb y1r y2r
        go_wp2_with (refine wpList_new (x := y) 9 26 rfl rfl rfl rfl Y1r.out Y2r.out y3r y4r y5r y6r ?_; intro w3 hb hd; have NEde := Lib.hid (Nat.ne_of_lt Hdw2.out.lt); have NEed := Lib.hid (Nat.ne_of_gt Hdw2.out.lt); have Hdw3 := Lib.hid (Hdw2.out.below hb); have HBw3 := Lib.hid (HBw2.out.trans (hb.mono HBw2.out.size)); have Hew3 := Lib.hid hd; clear hb hd; have qd0 := Hdw3.out.box.c0; have qd1 := Hdw3.out.box.c1; have qd2 := Hdw3.out.box.c2; have qd3 := Hdw3.out.box.c3; have qd4 := Hdw3.out.box.c4)
        go_at_call 18
        refine (readS other Hdw3.out).mono ?_
        rintro e w4 ⟨rfl, hb⟩
        have Hdw4 := Lib.hid (Hdw3.out.below hb)
        have Hew4 := Lib.hid (Hew3.out.below hb)
        have HBw4 := Lib.hid (HBw3.out.trans (hb.mono HBw3.out.size))
        clear qd0 qd1 qd2 qd3 qd4
        clear hb
        have qe0 := Hew4.out.box.c0
        have qe1 := Hew4.out.box.c1
        have qe2 := Hew4.out.box.c2
        have qe3 := Hew4.out.box.c3
        have qe4 := Hew4.out.box.c4
        go_wp2_with fail
        go_at_call 18
        refine (readS other Hew4.out).mono ?_
        rw [show rdO y other = rdO (⟨N, D, W, false, fu⟩ : De) other by rw [← Ey.out]; exact sp_rdO Eo.out rfl other, show rdX y other = rdX (⟨N, D, W, false, fu⟩ : De) other by rw [← Ey.out]; exact sp_other Eo.out rfl HN.out]
        rintro e w5 ⟨rfl, hb⟩
        have Hdw5 := Lib.hid (Hdw4.out.below hb)
        have Hew5 := Lib.hid (Hew4.out.below hb)
        have HBw5 := Lib.hid (HBw4.out.trans (hb.mono HBw4.out.size))
        clear qe0 qe1 qe2 qe3 qe4
        clear hb
        have qd0 := Hdw5.out.box.c0
        have qd1 := Hdw5.out.box.c1
        have qd2 := Hdw5.out.box.c2
        have qd3 := Hdw5.out.box.c3
        have qd4 := Hdw5.out.box.c4
        go_wp2_with fail
        clear qd0 qd1 qd2 qd3 qd4
        go_loopw [62] (fun v wr => ∃ i : Nat, i ≤ m ∧ v = .int .i64 i ∧ Hid (∀ b ∈ W.take i, b.n ≠ num) ∧ Hid (Below w5.heap.size w5 wr)) (fun v _ => m - (intOf v).toNat)
        case atStart => exact ⟨0, Nat.zero_le _, by go_num, fun b h => by simp at h, Below.refl _ _⟩
        case round =>
          obtain ⟨i, hi, rfl, hat, hbel⟩ := hrel
          have HN2 := Lib.hid Hdw5.out.two.1
          by_cases hlt : i < m
          · obtain ⟨q, hq⟩ : ∃ q, W[i]? = some q := ⟨_, List.getElem?_eq_getElem (by have h := HN2.out; dsimp only at h; omega)⟩
            obtain ⟨-, -, -, BB, hBB, hLL⟩ := Hdw5.out.two.below (Hid.out hbel)
            obtain ⟨b, z, hAe, hbb, hr⟩ := hLL i q hq
            have hbs : b < wr.heap.size := Nat.lt_of_lt_of_le hbb hBB
            have hc0 : wr.cell? ⟨b, z + i * 2, none⟩ = some (.int .u32 q.n) := hr 0 _ rfl
            have hc1 : wr.cell? ⟨b, z + i * 2 + 1, none⟩ = some (.string q.d) := hr 1 _ rfl
            subst hAe
            clear hr hLL
            have hd0 : (wr.alloc (.cells #[.int .u32 q.n, .string q.d] 41)).cell? ⟨wr.heap.size, 0, none⟩ = some (.int .u32 q.n) := by simp
            have HB9 := Lib.hid (show Below w5.heap.size w5 (wr.alloc (.cells #[.int .u32 q.n, .string q.d] 41)) from (Hid.out hbel).alloc (Hid.out hbel).size _)
            by_cases hqn : q.n = num
            · have hqe : ((q.n : Int) == (num : Int)) = true := by rw [beq_iff_eq]; exact congrArg Int.ofNat hqn
              have HB10 := Lib.hid (HBw5.out.trans (HB9.out.mono HBw5.out.size))
              clear hq hqn hat hbel
              go_wp2
              go_ret
              exact ⟨rfl, HB10.out⟩
            · have hqe : ((q.n : Int) == (num : Int)) = false := by rw [beq_eq_false_iff_ne]; exact fun e => hqn (Int.ofNat.inj e)
              have HAT := Lib.hid (show ∀ b ∈ W.take (i + 1), b.n ≠ num from fun b hb => by
                rw [take_snocB hq] at hb
                rcases List.mem_append.1 hb with h | h
                · exact Hid.out hat b h
                · rw [List.mem_singleton.1 h]; exact hqn)
              clear hq hqn hat hbel
              go_wp2
              exact ⟨⟨i + 1, by omega, by go_num, HAT.out, HB9.out⟩, by simp [intOf] <;> omega⟩
          · have HAT := Lib.hid (show ∀ b ∈ W, b.n ≠ num from fun b hb => Hid.out hat b (by rw [List.take_of_length_le (by have h := HN2.out; dsimp only at h; omega)]; exact hb))
            have HR := Lib.hid (HS.out HAT.out)
            have hbw := Hid.out hbel
            have Hdwr := Lib.hid (Hdw5.out.below hbw)
            have Hewr := Lib.hid (Hew5.out.below hbw)
            have HBwr := Lib.hid (HBw5.out.trans (hbw.mono HBw5.out.size))
            clear hat hbel hbw
            have qe0 := Hewr.out.box.c0
            have qe1 := Hewr.out.box.c1
            have qe2 := Hewr.out.box.c2
            have qe3 := Hewr.out.box.c3
            have qe4 := Hewr.out.box.c4
            go_wp2_with fail
            go_at_call 18
            refine (readS num Hewr.out).mono ?_
            rw [show rdO y num = 0 by rw [← Ey.out]; exact HR.out.1, show rdX y num = cutB s by rw [← Ey.out]; exact HR.out.2]
            rintro e w6 ⟨rfl, hb⟩
            have Hdw6 := Lib.hid (Hdwr.out.below hb)
            have Hew6 := Lib.hid (Hewr.out.below hb)
            have HBw6 := Lib.hid (HBwr.out.trans (hb.mono HBwr.out.size))
            clear qe0 qe1 qe2 qe3 qe4
            clear hb
            go_wp2_with (go_at_call 28; refine (refCut_any s hs _).mono ?_; rintro e w' ⟨rfl, rfl⟩)
            go_ret
            exact ⟨rfl, HBw6.out⟩
    · clear hy ho
      obtain ⟨k1, k2⟩ := DV.boxed (x := (⟨N, D, W, true, fu⟩ : De)) h1 h2 ln lm lo hi
      have Hd0 := Lib.hid k1
      have HB0 := Lib.hid k2
      clear k1 k2
      go_enter Tryd.func10, Tryd.ntmps10
      go_wp2_with fail
      generalize w.alloc _ = w0 at *
      go_at_call 20
      refine (lives_true w0).mono ?_
      rintro e w1 ⟨rfl, hb⟩
      have Hdw1 := Lib.hid (Hd0.out.below hb)
      have HBw1 := Lib.hid (HB0.out.trans (hb.mono HB0.out.size))
      clear hb
      have qd0 := Hdw1.out.box.c0
      have qd1 := Hdw1.out.box.c1
      have qd2 := Hdw1.out.box.c2
      have qd3 := Hdw1.out.box.c3
      have qd4 := Hdw1.out.box.c4
      go_wp2_with fail
      go_at_call 26
      refine (spoilS num s hs Hdw1.out).mono ?_
      rw [Ey.out, Eo.out]
      rintro e w2 ⟨Ar, nr, cr, Br, mr, dr, rfl, y1r, y2r, y3r, y4r, y5r, y6r, hb⟩
      have Y1r := Lib.hid y1r
      have Y2r := Lib.hid y2r
      have Hdw2 := Lib.hid (Hdw1.out.below hb)
      have HBw2 := Lib.hid (HBw1.out.trans (hb.mono HBw1.out.size))
      clear qd0 qd1 qd2 qd3 qd4
      clear hb y1r y2r
      go_wp2_with (refine wpList_new (x := y) 9 26 rfl rfl rfl rfl Y1r.out Y2r.out y3r y4r y5r y6r ?_; intro w3 hb hd; have NEde := Lib.hid (Nat.ne_of_lt Hdw2.out.lt); have NEed := Lib.hid (Nat.ne_of_gt Hdw2.out.lt); have Hdw3 := Lib.hid (Hdw2.out.below hb); have HBw3 := Lib.hid (HBw2.out.trans (hb.mono HBw2.out.size)); have Hew3 := Lib.hid hd; clear hb hd; have qd0 := Hdw3.out.box.c0; have qd1 := Hdw3.out.box.c1; have qd2 := Hdw3.out.box.c2; have qd3 := Hdw3.out.box.c3; have qd4 := Hdw3.out.box.c4)
      go_ret
      exact ⟨rfl, HBw3.out⟩
  · have hq : ¬ o = 0 := ho
    clear hy ho
    obtain ⟨k1, k2⟩ := DV.boxed (x := (⟨N, D, W, dn, fu⟩ : De)) h1 h2 ln lm lo hi
    have Hd0 := Lib.hid k1
    have HB0 := Lib.hid k2
    clear k1 k2
    go_enter Tryd.func10, Tryd.ntmps10
    go_wp2_with fail
    generalize w.alloc _ = w0 at *
    go_at_call 20
    refine (lives_true w0).mono ?_
    rintro e w1 ⟨rfl, hb⟩
    have Hdw1 := Lib.hid (Hd0.out.below hb)
    have HBw1 := Lib.hid (HB0.out.trans (hb.mono HB0.out.size))
    clear hb
    have qd0 := Hdw1.out.box.c0
    have qd1 := Hdw1.out.box.c1
    have qd2 := Hdw1.out.box.c2
    have qd3 := Hdw1.out.box.c3
    have qd4 := Hdw1.out.box.c4
    go_wp2_with fail
    go_at_call 26
    refine (spoilS num s hs Hdw1.out).mono ?_
    rw [Ey.out, Eo.out]
    rintro e w2 ⟨Ar, nr, cr, Br, mr, dr, rfl, y1r, y2r, y3r, y4r, y5r, y6r, hb⟩
    have Y1r := Lib.hid y1r
    have Y2r := Lib.hid y2r
    have Hdw2 := Lib.hid (Hdw1.out.below hb)
    have HBw2 := Lib.hid (HBw1.out.trans (hb.mono HBw1.out.size))
    clear qd0 qd1 qd2 qd3 qd4
    clear hb y1r y2r
    go_wp2_with (refine wpList_new (x := y) 9 26 rfl rfl rfl rfl Y1r.out Y2r.out y3r y4r y5r y6r ?_; intro w3 hb hd; have NEde := Lib.hid (Nat.ne_of_lt Hdw2.out.lt); have NEed := Lib.hid (Nat.ne_of_gt Hdw2.out.lt); have Hdw3 := Lib.hid (Hdw2.out.below hb); have HBw3 := Lib.hid (HBw2.out.trans (hb.mono HBw2.out.size)); have Hew3 := Lib.hid hd; clear hb hd; have qd0 := Hdw3.out.box.c0; have qd1 := Hdw3.out.box.c1; have qd2 := Hdw3.out.box.c2; have qd3 := Hdw3.out.box.c3; have qd4 := Hdw3.out.box.c4)
    go_ret
    exact ⟨rfl, HBw3.out⟩
end Go.Proofs.YtjkapmghifglcaaDoor.Dv
