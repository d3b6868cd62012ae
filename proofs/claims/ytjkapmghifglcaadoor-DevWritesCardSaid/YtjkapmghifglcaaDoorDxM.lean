/- The document's Copy, Check, Spoil, Crash, Flush (Read and Write, where they are there); fields of a variable put over; appends of booleans. Several texts in one. -/
import Derived.Test.YtjkapmghifglcaaDoorDwB
import Derived.Test.YtjkapmghifglcaaDoorDwD
import Derived.StillTailTactics
namespace Go.Proofs.YtjkapmghifglcaaDoor.Dv
section
set_option linter.unusedVariables false
open Go.ChangeShapes Go.WideShapes Go.ChangeAt Go.RowKit
open Ar Rg St
open BigFrame
/-- a field that is put over -/
theorem grown_cell (w : World) (b o : Nat) (u : Value) : w.grownBy (w.setCell ⟨b, o, none⟩ u) (some b) := grown_setCell w ⟨b, o, none⟩ u
theorem SlB.off_row {w w' : World} {A : Option Addr} {n c : Nat} {D : List Bk} (h : SlB w A n c D) {b N : Nat} {A1 A2 : Option Addr} {n1 c1 n2 c2 : Nat} {dn : Bool} {fu : Int} {t : TypeId} (hr : w.heap[b]? = some (.cells (devC N (.slice A1 n1 c1) (.slice A2 n2 c2) dn fu) t (0, 0))) (hg : w.grownBy w' (some b)) : SlB w' A n c D := by
  obtain ⟨h1, h2, h3, B, hB, hL⟩ := h
  refine ⟨h1, h2, h3, B, Nat.le_trans hB hg.size, fun i x hx => ?_⟩
  obtain ⟨g, o, hA, hgl, hc⟩ := hL i x hx
  refine ⟨g, o, hA, hgl, ?_⟩
  have c0 : w.cell? ⟨g, o + i * 2, none⟩ = some (.int .u32 x.n) := hc 0 _ rfl
  have c1 : w.cell? ⟨g, o + i * 2 + 1, none⟩ = some (.string x.d) := hc 1 _ rfl
  have hne : g ≠ b := by
    intro e
    subst e
    rw [cell_of_row _ _ _ _ _ _ hr] at c0 c1
    generalize o + i * 2 = q at c0 c1
    match q with
    | 0 => simp at c1
    | 1 => simp at c0
    | 2 => simp at c0
    | 3 => simp at c0
    | 4 => simp at c0
    | q + 5 => simp at c0
  intro j v hv
  exact (World.cell?_of_block (a := ⟨g, o + i * 2 + j, none⟩) (hg.block g (World.block_lt_of_cell? w _ c0) (fun e => hne (by cases e; rfl)))).trans (hc j v hv)
theorem row_set4 {w : World} {b N : Nat} {v1 v2 : Value} {dn : Bool} {fu : Int} {t : TypeId} (h : w.heap[b]? = some (.cells (devC N v1 v2 dn fu) t (0, 0))) (f : Int) : (w.setCell ⟨b, 4, none⟩ (.int .i64 f)).heap[b]? = some (.cells (devC N v1 v2 dn f) t (0, 0)) := by
  simp [World.setCell, h, Array.getElem?_modify]
theorem DV.fuse {w : World} {b n c m c' : Nat} {A A' : Option Addr} {x : De} (h : DV w b A n c A' m c' x) (f : Int) (lo : -9223372036854775808 ≤ f) (hi : f ≤ 9223372036854775807) : DV (w.setCell ⟨b, 4, none⟩ (.int .i64 f)) b A n c A' m c' ⟨x.N, x.D, x.W, x.dn, f⟩ :=
  ⟨row_set4 h.row f, h.one.off_row h.row (grown_cell _ _ _ _), h.two.off_row h.row (grown_cell _ _ _ _), h.ln, h.lm, lo, hi⟩
end
section
set_option linter.unusedVariables false
open Go.ChangeShapes Go.WideShapes Go.ChangeAt Go.RowKit
open Ar Rg St
open BigFrame
theorem infoK : (Tryd.prog.info? 4).map (fun i => (i.zero, i.size, i.bytes)) = some (some (.bool false), 1, 1) := by kernel_rfl
def encK (b : Bool) : List Value := [.bool b]
theorem encK_len (x : Bool) : (encK x).length = 1 := rfl
theorem encK_one (x : Bool) : ∀ u ∈ encK x, u.oneCell' = true := by
  intro v hv
  simp [encK] at hv
  subst hv; rfl
abbrev MkK (w wr : World) (v : Value) (D : List Bool) : Prop := Mk encK 1 4 w wr v D
theorem catK {ops : Array Oper} {rest : List Oper} {o : Oper} {a : Act} {Q : Exit → Act → World → Prop} {w wr : World} {v : Value} {D : List Bool} (hM : MkK w wr v D) (E : List Bool) (A : Option Addr) (m c : Nat) {B : Nat} (hm : m = E.length) (hL : Ls encK 1 wr B A E) (hlen : D.length + m ≤ 140737488355328)
    (hgd : o.guard = none) (s x : Operand) (ho : o.op = .call { callee := .builtin .append, args := #[s, x], argTypes := #[37, 37] }) (hs : a.eval s = v) (hx : a.eval x = .slice A m c)
    (h : ∀ v' w', MkK w w' v' (D ++ E) → wr.grownBy w' v.ownBlock → wpList Tryd.prog ops Q rest (a.put o.dst v') w') : wpList Tryd.prog ops Q (o :: rest) a wr := by
  obtain ⟨i0, hi, hz0, hz1, hz2⟩ := info_parts infoK
  exact wpList_cat 37 i0 _ 1 Tryd.underlying37 hi hz0 hz1 hz2 rfl (by decide) encK_len encK_one hM m c hm hL (by unfold maxLen; omega) (by omega) hgd s x ho hs hx h
theorem SlK.of_mk {w0 w : World} {D : List Bool} {v : Value} (h : MkK w0 w v D) : ∃ A n c, v = .slice A n c ∧ SlK w A n D := by
  obtain ⟨A, c, hv, h1, h2, h3⟩ := h.ls encK_len
  refine ⟨A, _, c, hv, rfl, fun j hj => ?_⟩
  obtain ⟨b, o, e, hb, hr⟩ := h3 j D[j] (List.getElem?_eq_getElem hj)
  exact ⟨b, o, e, hb, by have := hr 0 _ rfl; simpa using this⟩
theorem row_set3 {w : World} {b N : Nat} {v1 v2 : Value} {dn : Bool} {fu : Int} {t : TypeId} (h : w.heap[b]? = some (.cells (devC N v1 v2 dn fu) t (0, 0))) (q : Bool) : (w.setCell ⟨b, 3, none⟩ (.bool q)).heap[b]? = some (.cells (devC N v1 v2 q fu) t (0, 0)) := by
  simp [World.setCell, h, Array.getElem?_modify]
theorem row_set2 {w : World} {b N : Nat} {v1 v2 : Value} {dn : Bool} {fu : Int} {t : TypeId} (h : w.heap[b]? = some (.cells (devC N v1 v2 dn fu) t (0, 0))) (u : Value) : (w.setCell ⟨b, 2, none⟩ u).heap[b]? = some (.cells (devC N v1 u dn fu) t (0, 0)) := by
  simp [World.setCell, h, Array.getElem?_modify]
theorem DV.down {w : World} {b n c m c' : Nat} {A A' : Option Addr} {x : De} (h : DV w b A n c A' m c' x) (q : Bool) : DV (w.setCell ⟨b, 3, none⟩ (.bool q)) b A n c A' m c' ⟨x.N, x.D, x.W, q, x.fu⟩ :=
  ⟨row_set3 h.row q, h.one.off_row h.row (grown_cell _ _ _ _), h.two.off_row h.row (grown_cell _ _ _ _), h.ln, h.lm, h.lo, h.hi⟩
theorem DV.nowait {w : World} {b n c m c' : Nat} {A A' : Option Addr} {x : De} (h : DV w b A n c A' m c' x) : DV (w.setCell ⟨b, 2, none⟩ (.slice none 0 0)) b A n c none 0 0 ⟨x.N, x.D, [], x.dn, x.fu⟩ :=
  ⟨row_set2 h.row _, h.one.off_row h.row (grown_cell _ _ _ _), ⟨rfl, Nat.le_refl _, Nat.zero_le _, 0, Nat.zero_le _, Ls.nil⟩, h.ln, Nat.zero_le _, h.lo, h.hi⟩
theorem DV.aside {w w' : World} {b n c m c' : Nat} {A A' A1 A2 : Option Addr} {n1 c1 n2 c2 g : Nat} {x y : De} (h : DV w b A n c A' m c' x) (k : DV w g A1 n1 c1 A2 n2 c2 y) (hne : b ≠ g) (hg : w.grownBy w' (some g)) : DV w' b A n c A' m c' x :=
  ⟨(hg.block b h.lt (fun e => hne (by cases e; rfl))).trans h.row, h.one.off_row k.row hg, h.two.off_row k.row hg, h.ln, h.lm, h.lo, h.hi⟩
theorem below_of_grown2 {B g : Nat} {w0 w w' : World} (h : Below B w0 w) (hg : w.grownBy w' (some g)) (hB : B ≤ g) (hs : B ≤ w.heap.size) : Below B w0 w' := h.trans (below_of_grown hg hs hB)
end
section
set_option linter.unusedVariables false
open Go.ChangeShapes Go.WideShapes Go.ChangeAt Go.RowKit
open Ar Rg St
open BigFrame
theorem catB' {ops : Array Oper} {rest : List Oper} {o : Oper} {a : Act} {Q : Exit → Act → World → Prop} {w wr : World} {v : Value} {D : List Bk} (hM : MkB w wr v D) (E : List Bk) (A : Option Addr) (m c : Nat) {B : Nat} (hm : m = E.length) (hL : Ls enc 2 wr B A E) (hlen : D.length + m ≤ 5864062014805)
    (hgd : o.guard = none) (s x : Operand) (ho : o.op = .call { callee := .builtin .append, args := #[s, x], argTypes := #[23, 23] }) (hs : a.eval s = v) (hx : a.eval x = .slice A m c)
    (h : ∀ v' w', MkB w w' v' (D ++ E) → wr.grownBy w' v.ownBlock → wpList Tryd.prog ops Q rest (a.put o.dst v') w') : wpList Tryd.prog ops Q (o :: rest) a wr := by
  obtain ⟨i0, hi, hz0, hz1, hz2⟩ := info_parts infoB
  exact wpList_cat 23 i0 _ 24 Tryd.underlying23 hi hz0 hz1 hz2 rfl (by decide) Sb.enc_len Sb.enc_one hM m c hm hL (by unfold maxLen; omega) (by omega) hgd s x ho hs hx h
theorem mkB_made {w w1 : World} (h : Below w.heap.size w w1) : MkB w (w1.alloc (.cells #[] 41)) (.slice (some ⟨w1.heap.size, 0, none⟩) 0 0) [] :=
  ⟨World.ownsRow_made _ #[] 0 h.size (Nat.zero_le _) (by simp), h.alloc h.size _⟩
theorem heap_lt' {w : World} {b : Nat} {o : Obj} (h : w.heap[b]? = some o) : b < w.heap.size := by
  rcases Nat.lt_or_ge b w.heap.size with hl | hg
  · exact hl
  · rw [Array.getElem?_eq_none hg] at h; cases h
theorem size_set (w : World) (p : Addr) (u : Value) : (w.setCell p u).heap.size = w.heap.size := by simp [World.setCell]
set_option maxRecDepth 100000 in
set_option maxHeartbeats 2000000 in
theorem refCopy_any (N : Nat) (D W : List Bk) (A A' : Option Addr) (n c m c' : Nat) (dn : Bool) (fu : Int) (hn : n ≤ 5864062014805) (hm : m ≤ 5864062014805) (w : World) (hD : SlB w A n c D) (hW : SlB w A' m c' W) :
    Calls Tryd.prog 13 #[devV N (.slice A n c) (.slice A' m c') dn fu] w fun e w' => ∃ v1 v2, e = .returned (devV N v1 v2 dn fu) ∧ Two w.heap.size w' v1 D v2 W ∧ Below w.heap.size w w' := by
  unfold devV
  obtain ⟨R1, R2, S0, Z0⟩ := two_new w #[.int .u32 N, .slice A n c, .slice A' m c', .bool dn, .int .i64 fu] #[.int .u32 0, .slice none 0 0, .slice none 0 0, .bool false, .int .i64 0] 25 25
  have BX := Lib.hid (row_dev R1)
  have HR2 := Lib.hid R2
  have HZ := Lib.hid Z0
  have HD := Lib.hid (hD.below S0)
  have HWw := Lib.hid hW
  have HS := Lib.hid S0
  have q0 : w.heap.size < ((w.alloc (.cells #[.int .u32 N, .slice A n c, .slice A' m c', .bool dn, .int .i64 fu] 25)).alloc (.cells #[.int .u32 0, .slice none 0 0, .slice none 0 0, .bool false, .int .i64 0] 25)).heap.size := by rw [Z0]; omega
  have q1 : w.heap.size + 1 < ((w.alloc (.cells #[.int .u32 N, .slice A n c, .slice A' m c', .bool dn, .int .i64 fu] 25)).alloc (.cells #[.int .u32 0, .slice none 0 0, .slice none 0 0, .bool false, .int .i64 0] 25)).heap.size := by rw [Z0]; omega
  have hal : Below ((w.alloc (.cells #[.int .u32 N, .slice A n c, .slice A' m c', .bool dn, .int .i64 fu] 25)).alloc (.cells #[.int .u32 0, .slice none 0 0, .slice none 0 0, .bool false, .int .i64 0] 25)).heap.size ((w.alloc (.cells #[.int .u32 N, .slice A n c, .slice A' m c', .bool dn, .int .i64 fu] 25)).alloc (.cells #[.int .u32 0, .slice none 0 0, .slice none 0 0, .bool false, .int .i64 0] 25)) (((w.alloc (.cells #[.int .u32 N, .slice A n c, .slice A' m c', .bool dn, .int .i64 fu] 25)).alloc (.cells #[.int .u32 0, .slice none 0 0, .slice none 0 0, .bool false, .int .i64 0] 25)).alloc (.cells #[] 41)) := (Below.refl _ _).alloc (Nat.le_refl _) _
  have BXa := Lib.hid (BX.out.below hal q0)
  have HDa := Lib.hid (HD.out.below hal)
  have hm0 := mkB_made (Below.refl ((w.alloc (.cells #[.int .u32 N, .slice A n c, .slice A' m c', .bool dn, .int .i64 fu] 25)).alloc (.cells #[.int .u32 0, .slice none 0 0, .slice none 0 0, .bool false, .int .i64 0] 25)).heap.size ((w.alloc (.cells #[.int .u32 N, .slice A n c, .slice A' m c', .bool dn, .int .i64 fu] 25)).alloc (.cells #[.int .u32 0, .slice none 0 0, .slice none 0 0, .bool false, .int .i64 0] 25)))
  rw [Z0] at hm0
  have HM0 := Lib.hid (show MkB ((w.alloc (.cells #[.int .u32 N, .slice A n c, .slice A' m c', .bool dn, .int .i64 fu] 25)).alloc (.cells #[.int .u32 0, .slice none 0 0, .slice none 0 0, .bool false, .int .i64 0] 25)) (((w.alloc (.cells #[.int .u32 N, .slice A n c, .slice A' m c', .bool dn, .int .i64 fu] 25)).alloc (.cells #[.int .u32 0, .slice none 0 0, .slice none 0 0, .bool false, .int .i64 0] 25)).alloc (.cells #[] 41)) (.slice (some ⟨w.heap.size + 1 + 1, 0, none⟩) 0 0) [] from hm0)
  have Q0 := Lib.hid q0
  have Q1 := Lib.hid q1
  have a1 := BXa.out.c1
  clear hal hm0 q0 q1 hD hW S0 R1 R2 Z0
  go_enter Tryd.func13, Tryd.ntmps13
  go_wp2_with (first
    | (at_builtin
       obtain ⟨k1, k2, k3, B2, k4, k5⟩ := HWb.out
       refine catB' HM1.out W A' m c' k1 k5 (by simp only [List.length_nil]; omega) rfl _ _ rfl rfl rfl ?_
       intro u2 w2 hM2 hG2
       obtain ⟨A2, n2, c2, rfl, hs2⟩ := SlB.of_mk hM2
       have BX3 := Lib.hid (BX2b.out.below hM2.2 (by rw [size_set]; exact q3))
       have RR2 := Lib.hid (below_row RR1.out hM2.2 (by rw [size_set]; exact q4))
       have O2 := Lib.hid (Own.of_mk hM2)
       have P1 := Lib.hid (P1b.out.go hM2.2)
       have S2 := Lib.hid (S1.out.trans (hM2.2.mono (by rw [size_set]; exact S1s.out)))
       have x3 := BX3.out.c2
       have f3 := BX3.out.fr 2
       have y0 := (BX3.out.set2 (.slice A2 n2 c2)).c0
       have y1 := (BX3.out.set2 (.slice A2 n2 c2)).c1
       have y2 := (BX3.out.set2 (.slice A2 n2 c2)).c2
       have y3 := (BX3.out.set2 (.slice A2 n2 c2)).c3
       have y4 := (BX3.out.set2 (.slice A2 n2 c2)).c4
       have RR3 := Lib.hid (((grown_setCell w2 ⟨w.heap.size, 2, none⟩ (.slice A2 n2 c2)).block (w.heap.size + 1) (heap_lt' RR2.out) (by simp)).trans RR2.out)
       have HAP := Lib.hid (show ∀ k, (Value.slice A1 n1 c1).ownBlock = some k → (Value.slice A2 n2 c2).ownBlock ≠ some k from fun k hk hk2 => Nat.lt_irrefl _ (Nat.lt_of_lt_of_le (P1b.out.lt k hk).2 ((Own.of_mk hM2).lt k hk2).1))
       clear hM2 hG2 hs2 x2 x1 f1 k1 k2 k3 k4 k5)
    | (at_builtin
       generalize ((w.alloc (.cells #[.int .u32 N, .slice A n c, .slice A' m c', .bool dn, .int .i64 fu] 25)).alloc (.cells #[.int .u32 0, .slice none 0 0, .slice none 0 0, .bool false, .int .i64 0] 25)) = W0 at *
       have q0 := Q0.out
       have q1 := Q1.out
       obtain ⟨k1, k2, k3, B1, k4, k5⟩ := HDa.out
       refine catB' HM0.out D A n c k1 k5 (by simp only [List.length_nil]; omega) rfl _ _ rfl rfl rfl ?_
       intro u1 w1 hM1 hG1
       obtain ⟨A1, n1, c1, rfl, hs1⟩ := SlB.of_mk hM1
       have BX1 := Lib.hid (BX.out.below hM1.2 q0)
       have x1 := BX1.out.c1
       have f1 := BX1.out.fr 1
       have z1 := hM1.2.size
       have q3 : w.heap.size < w1.heap.size := Nat.lt_of_lt_of_le q0 z1
       have q4 : w.heap.size + 1 < w1.heap.size := Nat.lt_of_lt_of_le q1 z1
       have P1 := Lib.hid ((Own.of_mk hM1).far (p := ⟨w.heap.size, 1, none⟩) q0 (.slice A1 n1 c1))
       have S1 := Lib.hid ((HS.out.trans (hM1.2.mono HS.out.size)).setCell (p := ⟨w.heap.size, 1, none⟩) (Nat.le_refl _) (.slice A1 n1 c1))
       have S1s := Lib.hid (Nat.le_of_lt q3)
       have RR0 := Lib.hid (((grown_setCell w1 ⟨w.heap.size, 1, none⟩ (.slice A1 n1 c1)).block (w.heap.size + 1) q4 (by simp)).trans (below_row HR2.out hM1.2 q1))
       have hal2 : Below (w1.setCell ⟨w.heap.size, 1, none⟩ (.slice A1 n1 c1)).heap.size (w1.setCell ⟨w.heap.size, 1, none⟩ (.slice A1 n1 c1)) ((w1.setCell ⟨w.heap.size, 1, none⟩ (.slice A1 n1 c1)).alloc (.cells #[] 41)) := (Below.refl _ _).alloc (Nat.le_refl _) _
       have BX2 := BX1.out.set1 (.slice A1 n1 c1)
       have BX2b := Lib.hid BX2
       have BX2c := Lib.hid (BX2.below hal2 (by rw [size_set]; exact q3))
       have RR1 := RR0
       have P1b := P1
       have HWb := Lib.hid ((HWw.out.below S1.out).below hal2)
       have HM1 := Lib.hid (mkB_made (Below.refl (w1.setCell ⟨w.heap.size, 1, none⟩ (.slice A1 n1 c1)).heap.size (w1.setCell ⟨w.heap.size, 1, none⟩ (.slice A1 n1 c1))))
       rw [size_set] at HM1
       have x2 := BX2c.out.c2
       clear hM1 hG1 hs1 BX2 hal2 k1 k2 k3 k4 k5)
    | (refine wpList_store_row rfl 25 (.tmp 2) (.tmp 13) rfl (w.heap.size + 1) #[.int .u32 N, .slice A1 n1 c1, .slice A2 n2 c2, .bool dn, .int .i64 fu] rfl rfl 25 zAt RR3.out (by kernel_rfl) rfl (dev_one _ _ _ _ _ _ _ _ _) ?_))
  have hg2 := setRow_heap' (cs := #[.int .u32 N, .slice A1 n1 c1, .slice A2 n2 c2, .bool dn, .int .i64 fu]) RR3.out
  change bodyPost _ _ _ _ ⟨_, []⟩ _
  refine bodyPost_ret (v := .agg #[.int .u32 N, .slice A1 n1 c1, .slice A2 n2 c2, .bool dn, .int .i64 fu]) (results_cell_row rfl _ _ (w.heap.size + 1) 25 #[.int .u32 N, .slice A1 n1 c1, .slice A2 n2 c2, .bool dn, .int .i64 fu] (0, 0) _ rfl hg2 Tryd.underlying25 rfl (by kernel_rfl)) rfl ?_
  have e1 : w.heap.size ≤ W0.heap.size := Nat.le_of_lt q0
  have e2 : w.heap.size < (w1.setCell ⟨w.heap.size, 1, none⟩ (.slice A1 n1 c1)).heap.size := by rw [size_set]; exact q3
  have e3 : w.heap.size + 1 < (w1.setCell ⟨w.heap.size, 1, none⟩ (.slice A1 n1 c1)).heap.size := by rw [size_set]; exact q4
  exact ⟨_, _, rfl, ⟨((P1.out.far (p := ⟨w.heap.size, 2, none⟩) q0 _).farRow q1 _).down e1, ((O2.out.far (p := ⟨w.heap.size, 2, none⟩) e2 _).farRow e3 _).down (Nat.le_of_lt e2), HAP.out⟩, below_setRow (S2.out.setCell (p := ⟨w.heap.size, 2, none⟩) (Nat.le_refl _) _) (Nat.le_succ _) _⟩
end
section
set_option linter.unusedVariables false
open Go.ChangeShapes Go.WideShapes Go.ChangeAt Go.RowKit
open Ar Rg St
open BigFrame
variable {N : Nat} {D W : List Bk} {dn : Bool} {fu : Int}
theorem chO_bad (h : rtD N D W = false) : chO ⟨N, D, W, dn, fu⟩ = 7 := by unfold chO De.rt; rw [h]; rfl
theorem chO_bad1 (h : med N D = false) : chO ⟨N, D, W, dn, fu⟩ = 7 := chO_bad (by unfold rtD; rw [h, Bool.false_and, Bool.and_false, Bool.and_false])
theorem chO_bad2 (h : wts N W = false) : chO ⟨N, D, W, dn, fu⟩ = 7 := chO_bad (by unfold rtD; rw [h, Bool.and_false, Bool.and_false, Bool.and_false])
theorem wts_bad {N : Nat} {W : List Bk} {i : Nat} {q : Bk} (hx : W[i]? = some q) (h : okB N q = false) : wts N W = false := by
  unfold wts
  have : W.all (okB N) = false := by
    rw [Bool.eq_false_iff]
    intro h2
    rw [List.all_eq_true.1 h2 q (List.mem_of_getElem? hx)] at h
    cases h
  rw [this, Bool.and_false]
theorem chO_ok (h1 : 16 ≤ N) (h2 : N ≤ 65536) (h3 : med N D = true) (h4 : wts N W = true) : chO ⟨N, D, W, dn, fu⟩ = 0 := by
  unfold chO De.rt rtD
  rw [decide_eq_true h1, decide_eq_true h2, h3, h4]; rfl
set_option maxRecDepth 100000 in
set_option maxHeartbeats 4000000 in
theorem refCheck_any (N : Nat) (D W : List Bk) (A A' : Option Addr) (n c m c' : Nat) (dn : Bool) (fu : Int) (hn : n ≤ 281474976710656) (hm : m ≤ 281474976710656) (w : World) (hD : SlB w A n c D) (hW : SlB w A' m c' W) :
    Calls Tryd.prog 23 #[devV N (.slice A n c) (.slice A' m c') dn fu] w fun e w' => e = .returned (.int .i64 (chO ⟨N, D, W, dn, fu⟩)) ∧ Below w.heap.size w w' := by
  unfold devV
  have S0 : Below w.heap.size w (w.alloc (.cells (devC N (.slice A n c) (.slice A' m c') dn fu) 25)) := (Below.refl _ _).alloc (Nat.le_refl _) _
  have BX := Lib.hid (row_dev (heap_alloc_new w (.cells (devC N (.slice A n c) (.slice A' m c') dn fu) 25)))
  have HS := Lib.hid S0
  have HD := Lib.hid (hD.below S0)
  have HW := Lib.hid (hW.below S0)
  have HND := Lib.hid hD.1
  have HNW := Lib.hid hW.1
  have a0 := BX.out.c0
  have a1 := BX.out.c1
  have a2 := BX.out.c2
  clear hD hW S0
  by_cases h1 : N < 16
  · have q1 : decide (N < 16) = true := decide_eq_true h1
    have q1' : decide ((N : Int) < 16) = true := decide_eq_true (by omega)
    have HF := Lib.hid (show chO ⟨N, D, W, dn, fu⟩ = 7 from chO_bad (by unfold rtD; rw [decide_eq_false (by omega), Bool.false_and]))
    rw [HF.out]
    go_enter Tryd.func23, Tryd.ntmps23
    go_wp2
    go_ret
    exact ⟨rfl, HS.out⟩
  have q1' : decide ((N : Int) < 16) = false := decide_eq_false (by omega)
  by_cases h2 : 65536 < N
  · have q2' : decide ((65536 : Int) < (N : Int)) = true := decide_eq_true (by omega)
    have HF := Lib.hid (show chO ⟨N, D, W, dn, fu⟩ = 7 from chO_bad (by unfold rtD; rw [decide_eq_false (show ¬ N ≤ 65536 by omega), Bool.false_and, Bool.and_false]))
    rw [HF.out]
    go_enter Tryd.func23, Tryd.ntmps23
    go_wp2
    go_ret
    exact ⟨rfl, HS.out⟩
  have q2' : decide ((65536 : Int) < (N : Int)) = false := decide_eq_false (by omega)
  by_cases h3 : 16384 < m
  · have q3' : decide ((16384 : Int) < (m : Int)) = true := decide_eq_true (by omega)
    have HF := Lib.hid (show chO ⟨N, D, W, dn, fu⟩ = 7 from chO_bad2 (by unfold wts; rw [decide_eq_false (by rw [← HNW.out]; omega), Bool.false_and]))
    rw [HF.out]
    go_enter Tryd.func23, Tryd.ntmps23
    go_wp2
    go_ret
    exact ⟨rfl, HS.out⟩
  have q3' : decide ((16384 : Int) < (m : Int)) = false := decide_eq_false (by omega)
  have HL := Lib.hid (show 16 ≤ N ∧ N ≤ 65536 ∧ m ≤ 16384 from ⟨by omega, by omega, by omega⟩)
  clear h1 h2 h3
  go_enter Tryd.func23, Tryd.ntmps23
  go_wp2_with fail
  generalize w.alloc _ = W0 at *
  go_loopw [24] (fun v wr => ∃ i : Nat, i ≤ n ∧ v = .int .i64 i ∧ Hid (MAt N D i) ∧ Hid (Below W0.heap.size W0 wr)) (fun v _ => n - (intOf v).toNat)
  case atStart => exact ⟨0, Nat.zero_le _, by go_num, MAt.zero N D, Below.refl _ _⟩
  case round =>
    obtain ⟨i, hi, rfl, hrt, hbel⟩ := hrel
    have q9 : w.heap.size < W0.heap.size := World.block_lt_of_cell? W0 ⟨w.heap.size, 0, none⟩ BX.out.c0
    clear a0 a1 a2
    by_cases hlt : i < n
    · obtain ⟨q, hx⟩ : ∃ x, D[i]? = some x := ⟨_, List.getElem?_eq_getElem (by rw [← HND.out]; exact hlt)⟩
      obtain ⟨-, -, -, B, hB, hL0⟩ := HD.out
      have hL := hL0.below ((Hid.out hbel).mono hB)
      obtain ⟨b, o, hAe, hb0, hr⟩ := hL i q hx
      have hbs : b < wr.heap.size := Nat.lt_of_lt_of_le hb0 (Nat.le_trans hB (Hid.out hbel).size)
      have hc0 : wr.cell? ⟨b, o + i * 2, none⟩ = some (.int .u32 q.n) := hr 0 _ rfl
      have hc1 : wr.cell? ⟨b, o + i * 2 + 1, none⟩ = some (.string q.d) := hr 1 _ rfl
      have HLL := Lib.hid hL
      clear hr hL hL0
      subst hAe
      have hal : Below wr.heap.size wr (wr.alloc (.cells #[.int .u32 q.n, .string q.d] 41)) := (Below.refl _ _).alloc (Nat.le_refl _) _
      have q8 : w.heap.size < wr.heap.size := Nat.lt_of_lt_of_le q9 (Hid.out hbel).size
      have BX2 := Lib.hid ((BX.out.below (Hid.out hbel) q9).below hal q8)
      have HBN := Lib.hid ((Hid.out hbel).trans (hal.mono (Hid.out hbel).size))
      have HBN := Lib.hid (HBN.out)
      have b0 := BX2.out.c0
      have b1 := BX2.out.c1
      have hcx : (wr.alloc (.cells #[.int .u32 q.n, .string q.d] 41)).cell? ⟨wr.heap.size, 0, none⟩ = some (.int .u32 q.n) := by simp
      have hcv : (wr.alloc (.cells #[.int .u32 q.n, .string q.d] 41)).cell? ⟨wr.heap.size, 1, none⟩ = some (.string q.d) := by simp
      go_wp2_with fail
      generalize (wr.alloc (.cells #[.int .u32 q.n, .string q.d] 41)) = W1 at *
      clear hc0 hc1
      by_cases hi0 : i = 0
      · subst hi0
        clear hal
        by_cases hn1 : N ≤ q.n
        · have g1 : decide (N ≤ q.n) = true := decide_eq_true hn1
          have HF := Lib.hid (show chO ⟨N, D, W, dn, fu⟩ = 7 from chO_bad1 (med_bad (N := N) hx (show okM N q = false by unfold okM okB; rw [decide_eq_false (by omega), Bool.false_and, Bool.and_false])))
          have HRT := Lib.hid (fun W => (refRight_any q.d W).mono fun e w' (h : e = .returned (.bool (okT q.d)) ∧ W = w') => show e = .returned (.bool (okT q.d)) ∧ w' = W from ⟨h.1, h.2.symm⟩)
          clear hn1 hrt
          clear hx
          go_big_quiet ((go_at_call 41; exact Calls.quiet_of_same (HRT.out _)))
          have HB2 := Lib.hid (below_drewN HBN.out nq)
          clear HBN hbel
          go_wp2
          go_ret
          exact ⟨by rw [HF.out]; rfl, HS.out.trans (HB2.out.mono HS.out.size)⟩
        · have g1 : decide (N ≤ q.n) = false := decide_eq_false hn1
          cases hok : okT q.d
          · have HF := Lib.hid (show chO ⟨N, D, W, dn, fu⟩ = 7 from chO_bad1 (med_bad (N := N) hx (show okM N q = false by unfold okM okB; rw [show (decide (q.d.size ≤ 512) && !sfx q.d) = false from hok, Bool.and_false, Bool.and_false])))
            have HRT := Lib.hid (fun W => (refRight_any q.d W).mono fun e w' (h : e = .returned (.bool (okT q.d)) ∧ W = w') => show e = .returned (.bool false) ∧ w' = W from ⟨by rw [h.1, hok], h.2.symm⟩)
            clear hn1 hok hrt
            clear hx
            go_big_quiet ((go_at_call 41; exact Calls.quiet_of_same (HRT.out _)))
            have HB2 := Lib.hid (below_drewN HBN.out nq)
            clear HBN hbel
            go_wp2
            go_ret
            exact ⟨by rw [HF.out]; rfl, HS.out.trans (HB2.out.mono HS.out.size)⟩
          · have HRT := Lib.hid (fun W => (refRight_any q.d W).mono fun e w' (h : e = .returned (.bool (okT q.d)) ∧ W = w') => show e = .returned (.bool true) ∧ w' = W from ⟨by rw [h.1, hok], h.2.symm⟩)
            cases hemp : q.d.toList.isEmpty
            · have HOK := Lib.hid (show okM N q = true by unfold okM okB hb; rw [hemp, decide_eq_true (by omega), show (decide (q.d.size ≤ 512) && !sfx q.d) = true from hok]; rfl)
              have HG := Lib.hid (show MAt N D (0 + 1) from MAt.first (N := N) hx HOK.out)
              clear hn1 hok hrt
              clear hx
              go_big_quiet ((go_at_call 41; exact Calls.quiet_of_same (HRT.out _)))
              have HB2 := Lib.hid (below_drewN HBN.out nq)
              clear HBN hbel
              generalize World.drewN _ _ = W2 at *
              go_wp2
              exact ⟨⟨1, by omega, by go_num, HG.out, HB2.out⟩, by simp [intOf] <;> omega⟩
            · have HF := Lib.hid (show chO ⟨N, D, W, dn, fu⟩ = 7 from chO_bad1 (med_bad (N := N) hx (show okM N q = false by unfold okM hb; rw [hemp]; rfl)))
              clear hn1 hok hrt
              clear hx
              go_big_quiet ((go_at_call 41; exact Calls.quiet_of_same (HRT.out _)))
              have HB2 := Lib.hid (below_drewN HBN.out nq)
              clear HBN hbel
              go_wp2
              go_ret
              exact ⟨by rw [HF.out]; rfl, HS.out.trans (HB2.out.mono HS.out.size)⟩
      · obtain ⟨k, hk⟩ : ∃ k, i = k + 1 := ⟨i - 1, by omega⟩
        have hk1 : (i : Int) - 1 = (k : Int) := by omega
        have hk2 : decide ((0 : Int) < (i : Int)) = true := by rw [decide_eq_true_iff]; omega
        have hk3 : (k : Int) < (n : Int) := by omega
        obtain ⟨y, hy⟩ : ∃ y, D[k]? = some y := ⟨_, List.getElem?_eq_getElem (by rw [← HND.out]; omega)⟩
        obtain ⟨b2, o2, hAe, hb2, hr⟩ := HLL.out k y hy
        cases hAe
        have hd0 : W1.cell? ⟨b, o + k * 2, none⟩ = some (.int .u32 y.n) := (hal.cell (p := ⟨b, o + k * 2, none⟩) hbs).trans (hr 0 _ rfl)
        subst hk
        clear hal hr hb2
        by_cases hn1 : N ≤ q.n
        · have g1 : decide (N ≤ q.n) = true := decide_eq_true hn1
          have HF := Lib.hid (show chO ⟨N, D, W, dn, fu⟩ = 7 from chO_bad1 (med_bad (N := N) hx (show okM N q = false by unfold okM okB; rw [decide_eq_false (by omega), Bool.false_and, Bool.and_false])))
          have HRT := Lib.hid (fun W => (refRight_any q.d W).mono fun e w' (h : e = .returned (.bool (okT q.d)) ∧ W = w') => show e = .returned (.bool (okT q.d)) ∧ w' = W from ⟨h.1, h.2.symm⟩)
          clear hn1 hrt
          clear hx
          go_big_quiet ((go_at_call 41; exact Calls.quiet_of_same (HRT.out _)))
          have HB2 := Lib.hid (below_drewN HBN.out nq)
          clear HBN hbel
          go_wp2
          go_ret
          exact ⟨by rw [HF.out]; rfl, HS.out.trans (HB2.out.mono HS.out.size)⟩
        · have g1 : decide (N ≤ q.n) = false := decide_eq_false hn1
          cases hok : okT q.d
          · have HF := Lib.hid (show chO ⟨N, D, W, dn, fu⟩ = 7 from chO_bad1 (med_bad (N := N) hx (show okM N q = false by unfold okM okB; rw [show (decide (q.d.size ≤ 512) && !sfx q.d) = false from hok, Bool.and_false, Bool.and_false])))
            have HRT := Lib.hid (fun W => (refRight_any q.d W).mono fun e w' (h : e = .returned (.bool (okT q.d)) ∧ W = w') => show e = .returned (.bool false) ∧ w' = W from ⟨by rw [h.1, hok], h.2.symm⟩)
            clear hn1 hok hrt
            clear hx
            go_big_quiet ((go_at_call 41; exact Calls.quiet_of_same (HRT.out _)))
            have HB2 := Lib.hid (below_drewN HBN.out nq)
            clear HBN hbel
            go_wp2
            go_ret
            exact ⟨by rw [HF.out]; rfl, HS.out.trans (HB2.out.mono HS.out.size)⟩
          · have HRT := Lib.hid (fun W => (refRight_any q.d W).mono fun e w' (h : e = .returned (.bool (okT q.d)) ∧ W = w') => show e = .returned (.bool true) ∧ w' = W from ⟨by rw [h.1, hok], h.2.symm⟩)
            cases hemp : q.d.toList.isEmpty
            · have HOK := Lib.hid (show okM N q = true by unfold okM okB hb; rw [hemp, decide_eq_true (by omega), show (decide (q.d.size ≤ 512) && !sfx q.d) = true from hok]; rfl)
              by_cases hlt2 : q.n ≤ y.n
              · have g2 : decide (q.n ≤ y.n) = true := decide_eq_true hlt2
                have HF := Lib.hid (show chO ⟨N, D, W, dn, fu⟩ = 7 from chO_bad1 (med_down (N := N) hy hx (decide_eq_false (by omega))))
                clear hn1 hok hrt hlt2 hy
                clear hx
                go_big_quiet ((go_at_call 41; exact Calls.quiet_of_same (HRT.out _)))
                have HB2 := Lib.hid (below_drewN HBN.out nq)
                clear HBN hbel
                go_wp2
                go_ret
                exact ⟨by rw [HF.out]; rfl, HS.out.trans (HB2.out.mono HS.out.size)⟩
              · have g2 : decide (q.n ≤ y.n) = false := decide_eq_false hlt2
                have HG := Lib.hid (show MAt N D (k + 1 + 1) from (Hid.out hrt).more hy hx (decide_eq_true (by omega)) HOK.out)
                clear hn1 hok hrt hlt2 hy
                clear hx
                go_big_quiet ((go_at_call 41; exact Calls.quiet_of_same (HRT.out _)))
                have HB2 := Lib.hid (below_drewN HBN.out nq)
                clear HBN hbel
                generalize World.drewN _ _ = W2 at *
                go_wp2
                exact ⟨⟨k + 1 + 1, by omega, by go_num, HG.out, HB2.out⟩, by simp [intOf] <;> omega⟩
            · have HF := Lib.hid (show chO ⟨N, D, W, dn, fu⟩ = 7 from chO_bad1 (med_bad (N := N) hx (show okM N q = false by unfold okM hb; rw [hemp]; rfl)))
              clear hn1 hok hrt
              clear hx
              go_big_quiet ((go_at_call 41; exact Calls.quiet_of_same (HRT.out _)))
              have HB2 := Lib.hid (below_drewN HBN.out nq)
              clear HBN hbel
              go_wp2
              go_ret
              exact ⟨by rw [HF.out]; rfl, HS.out.trans (HB2.out.mono HS.out.size)⟩
    · have HM := Lib.hid ((Hid.out hrt).done (by rw [← HND.out]; omega))
      have BX2 := Lib.hid (BX.out.below (Hid.out hbel) q9)
      have b2 := BX2.out.c2
      have HBW := Lib.hid (Hid.out hbel)
      have HW2 := Lib.hid (HW.out.below (Hid.out hbel))
      clear hrt hbel
      generalize wr = ws at *
      go_wp2_with fail
      clear b2
      go_loopw [65] (fun v wr => ∃ i : Nat, i ≤ m ∧ v = .int .i64 i ∧ Hid (WAt N W i) ∧ Hid (Below ws.heap.size ws wr)) (fun v _ => m - (intOf v).toNat)
      case atStart => exact ⟨0, Nat.zero_le _, by go_num, WAt.zero N W, Below.refl _ _⟩
      case round =>
        obtain ⟨i, hi, rfl, hrt, hbel⟩ := hrel
        have q7 : w.heap.size < ws.heap.size := World.block_lt_of_cell? ws ⟨w.heap.size, 0, none⟩ BX2.out.c0
        have HB5 := Lib.hid ((HS.out.trans (HBW.out.mono HS.out.size)).trans ((Hid.out hbel).mono (Nat.le_of_lt q7)))
        by_cases hlt : i < m
        · obtain ⟨q, hx⟩ : ∃ x, W[i]? = some x := ⟨_, List.getElem?_eq_getElem (by rw [← HNW.out]; exact hlt)⟩
          obtain ⟨-, -, -, B, hB, hL0⟩ := HW2.out
          obtain ⟨b, o, hAe, hb0, hr⟩ := (hL0.below ((Hid.out hbel).mono hB)) i q hx
          have hbs : b < wr.heap.size := Nat.lt_of_lt_of_le hb0 (Nat.le_trans hB (Hid.out hbel).size)
          have hc0 : wr.cell? ⟨b, o + i * 2, none⟩ = some (.int .u32 q.n) := hr 0 _ rfl
          have hc1 : wr.cell? ⟨b, o + i * 2 + 1, none⟩ = some (.string q.d) := hr 1 _ rfl
          clear hr hL0
          subst hAe
          have hal : Below wr.heap.size wr (wr.alloc (.cells #[.int .u32 q.n, .string q.d] 41)) := (Below.refl _ _).alloc (Nat.le_refl _) _
          have q8 : w.heap.size < wr.heap.size := Nat.lt_of_lt_of_le q7 (Hid.out hbel).size
          have b0 := ((BX2.out.below (Hid.out hbel) q7).below hal q8).c0
          have HB5 := Lib.hid (HB5.out.trans (hal.mono HB5.out.size))
          have HB6 := Lib.hid ((Hid.out hbel).trans (hal.mono (Hid.out hbel).size))
          have hcx : (wr.alloc (.cells #[.int .u32 q.n, .string q.d] 41)).cell? ⟨wr.heap.size, 0, none⟩ = some (.int .u32 q.n) := by simp
          have hcv : (wr.alloc (.cells #[.int .u32 q.n, .string q.d] 41)).cell? ⟨wr.heap.size, 1, none⟩ = some (.string q.d) := by simp
          clear hal hbel
          by_cases hn1 : N ≤ q.n
          · have g1 : decide (N ≤ q.n) = true := decide_eq_true hn1
            have HF := Lib.hid (show chO ⟨N, D, W, dn, fu⟩ = 7 from chO_bad2 (wts_bad hx (show okB N q = false by unfold okB; rw [decide_eq_false (by omega), Bool.false_and])))
            clear hx hrt hn1
            go_wp2
            go_ret
            exact ⟨by rw [HF.out]; rfl, HB5.out⟩
          · have g1 : decide (N ≤ q.n) = false := decide_eq_false hn1
            have HRC := Lib.hid (refRight_any q.d)
            cases hok : okT q.d
            · rw [hok] at HRC
              have HF := Lib.hid (show chO ⟨N, D, W, dn, fu⟩ = 7 from chO_bad2 (wts_bad hx (show okB N q = false by unfold okB; rw [show (decide (q.d.size ≤ 512) && !sfx q.d) = false from hok, Bool.and_false])))
              clear hx hrt hn1 hok
              go_wp2_with (go_at_call 41; refine (HRC.out _).mono ?_; rintro e w3 ⟨rfl, rfl⟩)
              go_ret
              exact ⟨by rw [HF.out]; rfl, HB5.out⟩
            · rw [hok] at HRC
              have HG := Lib.hid (show WAt N W (i + 1) by
                unfold WAt
                rw [take_snocB hx]
                intro y hy
                rcases List.mem_append.1 hy with hy | hy
                · exact (Hid.out hrt) y hy
                · simp at hy; subst hy
                  unfold okB; rw [decide_eq_true (by omega), show (decide (y.d.size ≤ 512) && !sfx y.d) = true from hok]; rfl)
              clear hx hrt hn1 hok
              go_wp2_with (go_at_call 41; refine (HRC.out _).mono ?_; rintro e w3 ⟨rfl, rfl⟩)
              exact ⟨⟨i + 1, by omega, by go_num, HG.out, HB6.out⟩, by simp [intOf] <;> omega⟩
        · have HF := Lib.hid (show chO ⟨N, D, W, dn, fu⟩ = 0 from chO_ok HL.out.1 HL.out.2.1 HM.out (by
            have h := Hid.out hrt
            unfold WAt at h
            rw [List.take_of_length_le (by rw [← HNW.out]; omega)] at h
            unfold wts
            rw [decide_eq_true (by rw [← HNW.out]; exact HL.out.2.2), Bool.true_and]
            exact List.all_eq_true.2 h))
          go_wp2
          go_ret
          exact ⟨by rw [HF.out]; rfl, HB5.out⟩
end
section
set_option linter.unusedVariables false
set_option linter.unusedSimpArgs false
open Go.ChangeShapes Go.WideShapes Go.ChangeAt Go.RowKit
open Ar Rg St
open BigFrame
theorem row_set1 {w : World} {b N : Nat} {v1 v2 : Value} {dn : Bool} {fu : Int} {t : TypeId} (h : w.heap[b]? = some (.cells (devC N v1 v2 dn fu) t (0, 0))) (u : Value) : (w.setCell ⟨b, 1, none⟩ u).heap[b]? = some (.cells (devC N u v2 dn fu) t (0, 0)) := by
  simp [World.setCell, h, Array.getElem?_modify]
theorem DV.blocks {w : World} {b n c m c' n3 c3 : Nat} {A A' A3 : Option Addr} {x : De} {D3 : List Bk} (h : DV w b A n c A' m c' x) (h1 : SlB w A3 n3 c3 D3) (ln : n3 ≤ 281474976710656) : DV (w.setCell ⟨b, 1, none⟩ (.slice A3 n3 c3)) b A3 n3 c3 A' m c' ⟨x.N, D3, x.W, x.dn, x.fu⟩ :=
  ⟨row_set1 h.row _, h1.off_row h.row (grown_cell _ _ _ _), h.two.off_row h.row (grown_cell _ _ _ _), ln, h.lm, h.lo, h.hi⟩
/-- a device that is answered out of the row g -/
theorem DV.answer {w : World} {b g n c m c' : Nat} {A A' : Option Addr} {x : De} (h : DV w b A n c A' m c' x) (hg : w.heap[g]? = some (.cells zAt 25 (0, 0))) (cs : Array Value) : DevAt (w.setRow g cs) (.agg #[.int .u32 x.N, .slice A n c, .slice A' m c', .bool x.dn, .int .i64 x.fu]) x :=
  ⟨A, n, c, A', m, c', rfl, h.one.off_row (N := 0) (A1 := none) (A2 := none) (n1 := 0) (c1 := 0) (n2 := 0) (c2 := 0) (dn := false) (fu := 0) hg (grown_setRow _ _ _), h.two.off_row (N := 0) (A1 := none) (A2 := none) (n1 := 0) (c1 := 0) (n2 := 0) (c2 := 0) (dn := false) (fu := 0) hg (grown_setRow _ _ _), h.ln, h.lm, h.lo, h.hi⟩
set_option maxRecDepth 100000 in
set_option maxHeartbeats 4000000 in
theorem refSpoil_any (x : De) (num : Nat) (s : ByteArray) (v : Value) (w : World) (hv : DevAt w v x) (hs63 : s.size ≤ 9223372036854775807) :
    Calls Tryd.prog 27 #[v, .int .u32 num, .string s] w fun e w' => ∃ v', e = .returned (.tuple #[v', .int .i64 (spO x num s)]) ∧ DevAt w' v' (spX x num s) ∧ Below w.heap.size w w' := by
  obtain ⟨A, n, c, A', m, c', rfl, hD, hW, hn, hm, f1, f2⟩ := hv
  obtain ⟨N, D, W, dn, fu⟩ := x
  dsimp only at hD hW f1 f2 ⊢
  obtain ⟨R1, R2, S0, Z0⟩ := two_new w (devC N (.slice A n c) (.slice A' m c') dn fu) zAt 25 25
  have HR2 := Lib.hid R2
  have HV0 := Lib.hid (show DV ((w.alloc (.cells (devC N (.slice A n c) (.slice A' m c') dn fu) 25)).alloc (.cells zAt 25)) w.heap.size A n c A' m c' ⟨N, D, W, dn, fu⟩ from ⟨R1, hD.below S0, hW.below S0, hn, hm, f1, f2⟩)
  have HS := Lib.hid S0
  have hD0 := hD.1
  have hW0 := hW.1
  clear hD hW S0 R1 R2 Z0
  unfold devV
  cases hr : De.rt ⟨N, D, W, dn, fu⟩
  · have HE := Lib.hid (show spO ⟨N, D, W, dn, fu⟩ num s = 7 by unfold spO; rw [hr]; rfl)
    have HX := Lib.hid (show spX ⟨N, D, W, dn, fu⟩ num s = De.zero by unfold spX; rw [hr]; rfl)
    have HCH := Lib.hid (show chO ⟨N, D, W, dn, fu⟩ = 7 by unfold chO; rw [hr]; rfl)
    rw [HE.out, HX.out]
    clear hr hD0 hW0 HE HX
    go_enter Tryd.func27, Tryd.ntmps27
    go_wp2_with fail
    generalize (w.alloc _).alloc _ = W0 at *
    go_at_call 23
    refine (refCheck_any N D W A A' n c m c' dn fu (by omega) (by omega) W0 HV0.out.one HV0.out.two).mono ?_
    rw [HCH.out]
    rintro e w1 ⟨rfl, hb1⟩
    have HB := Lib.hid (HS.out.trans (hb1.mono HS.out.size))
    have HV1 := Lib.hid (HV0.out.below hb1)
    have HR1 := Lib.hid (below_row HR2.out hb1 (heap_lt HR2.out))
    have a0 := HV1.out.box.c0
    have a1 := HV1.out.box.c1
    have a2 := HV1.out.box.c2
    have a3 := HV1.out.box.c3
    have a4 := HV1.out.box.c4
    clear hb1
    go_wp2_with (refine wpList_store_row rfl 25 (.tmp 6) (.tmp 11) rfl (w.heap.size + 1) #[.int .u32 0, .slice none 0 0, .slice none 0 0, .bool false, .int .i64 0] rfl rfl 25 zAt HR1.out (by kernel_rfl) rfl (dev_one _ _ _ _ _ _ _ _ _) ?_)
    have hg2 := setRow_heap' (cs := #[.int .u32 0, .slice none 0 0, .slice none 0 0, .bool false, .int .i64 0]) HR1.out
    refine bodyPost_ret (v := .tuple #[.agg #[.int .u32 0, .slice none 0 0, .slice none 0 0, .bool false, .int .i64 0], .int .i64 7]) (results_row2 rfl _ _ (w.heap.size + 1) 25 #[.int .u32 0, .slice none 0 0, .slice none 0 0, .bool false, .int .i64 0] (0, 0) _ rfl hg2 Tryd.underlying25 rfl (by kernel_rfl) _ rfl) rfl ?_
    exact ⟨_, rfl, DevAt.zero _, below_setRow HB.out (Nat.le_succ _) _⟩
  · have HCH := Lib.hid (show chO ⟨N, D, W, dn, fu⟩ = 0 from chO_zero.2 hr)
    have hlen := rt_len hr
    dsimp only at hlen
    have hnl : n ≤ 65536 := by omega
    have hml : m ≤ 16384 := by omega
    have HDL := Lib.hid (show D.length ≤ 65536 from hlen.1)
    have HWL := Lib.hid (show W.length ≤ 16384 from hlen.2)
    clear hlen hD0 hW0
    by_cases hN : N ≤ num
    · have g1 : decide (N ≤ num) = true := decide_eq_true hN
      have HY := Lib.hid (show hadE N num s = 1 by unfold hadE; rw [if_pos hN])
      clear hN
      have HE := Lib.hid (show spO ⟨N, D, W, dn, fu⟩ num s = 1 by unfold spO; rw [hr, if_pos rfl]; exact HY.out)
      have HX := Lib.hid (show spX ⟨N, D, W, dn, fu⟩ num s = ⟨N, D, W, dn, fu⟩ by unfold spX; rw [hr, if_pos rfl, HY.out]; rfl)
      rw [HE.out, HX.out]
      clear hr HE HX
      go_enter Tryd.func27, Tryd.ntmps27
      go_wp2_with fail
      generalize (w.alloc _).alloc _ = W0 at *
      go_at_call 23
      refine (refCheck_any N D W A A' n c m c' dn fu (by omega) (by omega) W0 HV0.out.one HV0.out.two).mono ?_
      rw [HCH.out]
      rintro e w1 ⟨rfl, hb1⟩
      have HB := Lib.hid (HS.out.trans (hb1.mono HS.out.size))
      have HV1 := Lib.hid (HV0.out.below hb1)
      have HR1 := Lib.hid (below_row HR2.out hb1 (heap_lt HR2.out))
      have a0 := HV1.out.box.c0
      have a1 := HV1.out.box.c1
      have a2 := HV1.out.box.c2
      have a3 := HV1.out.box.c3
      have a4 := HV1.out.box.c4
      clear hb1
      go_wp2_with fail
      go_at_call 13
      refine (refCopy_any N D W A A' n c m c' dn fu (by omega) (by omega) w1 HV1.out.one HV1.out.two).mono ?_
      rintro e w2 ⟨v1, v2, rfl, hT, hb2⟩
      obtain ⟨A1, n1, c1, rfl, hs1⟩ := hT.one.sl
      obtain ⟨A2, n2, c2, rfl, hs2⟩ := hT.two.sl
      have HT := Lib.hid hT
      have hn1 : n1 ≤ 65536 := by have h1 := hs1.1; have h2 : n = D.length := HV1.out.one.1; omega
      have hn2 : n2 ≤ 16384 := by have h1 := hs2.1; have h2 : m = W.length := HV1.out.two.1; omega
      have HV2 := Lib.hid (HV1.out.below hb2)
      have HR2b := Lib.hid (below_row HR1.out hb2 (heap_lt HR1.out))
      have HB2 := Lib.hid (HB.out.trans (hb2.mono HB.out.size))
      have HP := Lib.hid (show DV (w2.setRow w.heap.size (devC N (.slice A1 n1 c1) (.slice A2 n2 c2) dn fu)) w.heap.size A1 n1 c1 A2 n2 c2 ⟨N, D, W, dn, fu⟩ from HV2.out.put (y := ⟨N, D, W, dn, fu⟩) hs1 hs2 (by omega) (by omega) f1 f2)
      have HR3 := Lib.hid (((grown_setRow w2 w.heap.size (devC N (.slice A1 n1 c1) (.slice A2 n2 c2) dn fu)).block (w.heap.size + 1) (heap_lt HR2b.out) (by simp)).trans HR2b.out)
      have HB3 := Lib.hid (below_setRow HB2.out (Nat.le_refl w.heap.size) (devC N (.slice A1 n1 c1) (.slice A2 n2 c2) dn fu))
      have O2 := Lib.hid (HT.out.two.farRow (HV1.out.lt) (devC N (.slice A1 n1 c1) (.slice A2 n2 c2) dn fu))
      have HW1 := Lib.hid HV1.out.lt
      have HW1b := Lib.hid (heap_lt HR1.out)
      clear hs1 hs2 hT hb2 a0 a1 a2 a3 a4
      go_wp2_with (first | (refine wpList_store_row rfl 25 (.tmp 6) (.tmp 18) rfl (w.heap.size + 1) #[.int .u32 N, .slice A1 n1 c1, .slice A2 n2 c2, .bool dn, .int .i64 fu] rfl rfl 25 zAt HRR.out (by kernel_rfl) rfl (dev_one _ _ _ _ _ _ _ _ _) ?_) | (refine wpList_store_row rfl 25 (.tmp 3) (.tmp 13) rfl w.heap.size #[.int .u32 N, .slice A1 n1 c1, .slice A2 n2 c2, .bool dn, .int .i64 fu] rfl rfl 25 _ HV2.out.row (by kernel_rfl) rfl (dev_one _ _ _ _ _ _ _ _ _) ?_; change wpList _ _ _ _ _ (w2.setRow w.heap.size (devC N (.slice A1 n1 c1) (.slice A2 n2 c2) dn fu)); generalize w2.setRow w.heap.size (devC N (.slice A1 n1 c1) (.slice A2 n2 c2) dn fu) = W3 at *; have b0 := HP.out.box.c0; have b1 := HP.out.box.c1; have b2 := HP.out.box.c2; have b3 := HP.out.box.c3; have b4 := HP.out.box.c4; have HRR := Lib.hid HR3.out))
      have hg2 := setRow_heap' (cs := #[.int .u32 N, .slice A1 n1 c1, .slice A2 n2 c2, .bool dn, .int .i64 fu]) HRR.out
      refine bodyPost_ret (v := .tuple #[.agg #[.int .u32 N, .slice A1 n1 c1, .slice A2 n2 c2, .bool dn, .int .i64 fu], .int .i64 1]) (results_row2 rfl _ _ (w.heap.size + 1) 25 #[.int .u32 N, .slice A1 n1 c1, .slice A2 n2 c2, .bool dn, .int .i64 fu] (0, 0) _ rfl hg2 Tryd.underlying25 rfl (by kernel_rfl) _ rfl) rfl ?_
      exact ⟨_, rfl, HP.out.answer HRR.out _, below_setRow HB3.out (Nat.le_succ _) _⟩
    have g1 : decide (N ≤ num) = false := decide_eq_false hN
    by_cases hL : 512 < s.size
    · have g2 : decide ((512 : Int) < (s.size : Int)) = true := decide_eq_true (by omega)
      have HY := Lib.hid (show hadE N num s = 2 by unfold hadE; rw [if_neg hN, if_pos hL])
      clear hN hL
      have HE := Lib.hid (show spO ⟨N, D, W, dn, fu⟩ num s = 2 by unfold spO; rw [hr, if_pos rfl]; exact HY.out)
      have HX := Lib.hid (show spX ⟨N, D, W, dn, fu⟩ num s = ⟨N, D, W, dn, fu⟩ by unfold spX; rw [hr, if_pos rfl, HY.out]; rfl)
      rw [HE.out, HX.out]
      clear hr HE HX
      go_enter Tryd.func27, Tryd.ntmps27
      go_wp2_with fail
      generalize (w.alloc _).alloc _ = W0 at *
      go_at_call 23
      refine (refCheck_any N D W A A' n c m c' dn fu (by omega) (by omega) W0 HV0.out.one HV0.out.two).mono ?_
      rw [HCH.out]
      rintro e w1 ⟨rfl, hb1⟩
      have HB := Lib.hid (HS.out.trans (hb1.mono HS.out.size))
      have HV1 := Lib.hid (HV0.out.below hb1)
      have HR1 := Lib.hid (below_row HR2.out hb1 (heap_lt HR2.out))
      have a0 := HV1.out.box.c0
      have a1 := HV1.out.box.c1
      have a2 := HV1.out.box.c2
      have a3 := HV1.out.box.c3
      have a4 := HV1.out.box.c4
      clear hb1
      go_wp2_with fail
      go_at_call 13
      refine (refCopy_any N D W A A' n c m c' dn fu (by omega) (by omega) w1 HV1.out.one HV1.out.two).mono ?_
      rintro e w2 ⟨v1, v2, rfl, hT, hb2⟩
      obtain ⟨A1, n1, c1, rfl, hs1⟩ := hT.one.sl
      obtain ⟨A2, n2, c2, rfl, hs2⟩ := hT.two.sl
      have HT := Lib.hid hT
      have hn1 : n1 ≤ 65536 := by have h1 := hs1.1; have h2 : n = D.length := HV1.out.one.1; omega
      have hn2 : n2 ≤ 16384 := by have h1 := hs2.1; have h2 : m = W.length := HV1.out.two.1; omega
      have HV2 := Lib.hid (HV1.out.below hb2)
      have HR2b := Lib.hid (below_row HR1.out hb2 (heap_lt HR1.out))
      have HB2 := Lib.hid (HB.out.trans (hb2.mono HB.out.size))
      have HP := Lib.hid (show DV (w2.setRow w.heap.size (devC N (.slice A1 n1 c1) (.slice A2 n2 c2) dn fu)) w.heap.size A1 n1 c1 A2 n2 c2 ⟨N, D, W, dn, fu⟩ from HV2.out.put (y := ⟨N, D, W, dn, fu⟩) hs1 hs2 (by omega) (by omega) f1 f2)
      have HR3 := Lib.hid (((grown_setRow w2 w.heap.size (devC N (.slice A1 n1 c1) (.slice A2 n2 c2) dn fu)).block (w.heap.size + 1) (heap_lt HR2b.out) (by simp)).trans HR2b.out)
      have HB3 := Lib.hid (below_setRow HB2.out (Nat.le_refl w.heap.size) (devC N (.slice A1 n1 c1) (.slice A2 n2 c2) dn fu))
      have O2 := Lib.hid (HT.out.two.farRow (HV1.out.lt) (devC N (.slice A1 n1 c1) (.slice A2 n2 c2) dn fu))
      have HW1 := Lib.hid HV1.out.lt
      have HW1b := Lib.hid (heap_lt HR1.out)
      clear hs1 hs2 hT hb2 a0 a1 a2 a3 a4
      go_wp2_with (first | (refine wpList_store_row rfl 25 (.tmp 6) (.tmp 22) rfl (w.heap.size + 1) #[.int .u32 N, .slice A1 n1 c1, .slice A2 n2 c2, .bool dn, .int .i64 fu] rfl rfl 25 zAt HRR.out (by kernel_rfl) rfl (dev_one _ _ _ _ _ _ _ _ _) ?_) | (refine wpList_store_row rfl 25 (.tmp 3) (.tmp 13) rfl w.heap.size #[.int .u32 N, .slice A1 n1 c1, .slice A2 n2 c2, .bool dn, .int .i64 fu] rfl rfl 25 _ HV2.out.row (by kernel_rfl) rfl (dev_one _ _ _ _ _ _ _ _ _) ?_; change wpList _ _ _ _ _ (w2.setRow w.heap.size (devC N (.slice A1 n1 c1) (.slice A2 n2 c2) dn fu)); generalize w2.setRow w.heap.size (devC N (.slice A1 n1 c1) (.slice A2 n2 c2) dn fu) = W3 at *; have b0 := HP.out.box.c0; have b1 := HP.out.box.c1; have b2 := HP.out.box.c2; have b3 := HP.out.box.c3; have b4 := HP.out.box.c4; have HRR := Lib.hid HR3.out))
      have hg2 := setRow_heap' (cs := #[.int .u32 N, .slice A1 n1 c1, .slice A2 n2 c2, .bool dn, .int .i64 fu]) HRR.out
      refine bodyPost_ret (v := .tuple #[.agg #[.int .u32 N, .slice A1 n1 c1, .slice A2 n2 c2, .bool dn, .int .i64 fu], .int .i64 2]) (results_row2 rfl _ _ (w.heap.size + 1) 25 #[.int .u32 N, .slice A1 n1 c1, .slice A2 n2 c2, .bool dn, .int .i64 fu] (0, 0) _ rfl hg2 Tryd.underlying25 rfl (by kernel_rfl) _ rfl) rfl ?_
      exact ⟨_, rfl, HP.out.answer HRR.out _, below_setRow HB3.out (Nat.le_succ _) _⟩
    have g2 : decide ((512 : Int) < (s.size : Int)) = false := decide_eq_false (by omega)
    have HY := Lib.hid (show hadE N num s = 0 by unfold hadE; rw [if_neg hN, if_neg hL])
    have HE := Lib.hid (show spO ⟨N, D, W, dn, fu⟩ num s = 0 by unfold spO; rw [hr, if_pos rfl]; exact HY.out)
    have HX := Lib.hid (show spX ⟨N, D, W, dn, fu⟩ num s = ⟨N, don ⟨num, cutB s⟩ D, W, dn, fu⟩ by unfold spX; rw [hr, if_pos rfl, HY.out]; rfl)
    rw [HE.out, HX.out]
    have HAL := Lib.hid (show (don ⟨num, cutB s⟩ D).length ≤ 65537 by have h1 := don_len ⟨num, cutB s⟩ D; have := HDL.out; omega)
    have HC := Lib.hid (refCut_any s hs63)
    clear hr HE HX hN hL
    go_enter Tryd.func27, Tryd.ntmps27
    go_wp2_with fail
    generalize (w.alloc _).alloc _ = W0 at *
    go_at_call 23
    refine (refCheck_any N D W A A' n c m c' dn fu (by omega) (by omega) W0 HV0.out.one HV0.out.two).mono ?_
    rw [HCH.out]
    rintro e w1 ⟨rfl, hb1⟩
    have HB := Lib.hid (HS.out.trans (hb1.mono HS.out.size))
    have HV1 := Lib.hid (HV0.out.below hb1)
    have HR1 := Lib.hid (below_row HR2.out hb1 (heap_lt HR2.out))
    have a0 := HV1.out.box.c0
    have a1 := HV1.out.box.c1
    have a2 := HV1.out.box.c2
    have a3 := HV1.out.box.c3
    have a4 := HV1.out.box.c4
    clear hb1
    go_wp2_with fail
    go_at_call 13
    refine (refCopy_any N D W A A' n c m c' dn fu (by omega) (by omega) w1 HV1.out.one HV1.out.two).mono ?_
    rintro e w2 ⟨v1, v2, rfl, hT, hb2⟩
    obtain ⟨A1, n1, c1, rfl, hs1⟩ := hT.one.sl
    obtain ⟨A2, n2, c2, rfl, hs2⟩ := hT.two.sl
    have HT := Lib.hid hT
    have hn1 : n1 ≤ 65536 := by have h1 := hs1.1; have h2 : n = D.length := HV1.out.one.1; omega
    have hn2 : n2 ≤ 16384 := by have h1 := hs2.1; have h2 : m = W.length := HV1.out.two.1; omega
    have HV2 := Lib.hid (HV1.out.below hb2)
    have HR2b := Lib.hid (below_row HR1.out hb2 (heap_lt HR1.out))
    have HB2 := Lib.hid (HB.out.trans (hb2.mono HB.out.size))
    have HP := Lib.hid (show DV (w2.setRow w.heap.size (devC N (.slice A1 n1 c1) (.slice A2 n2 c2) dn fu)) w.heap.size A1 n1 c1 A2 n2 c2 ⟨N, D, W, dn, fu⟩ from HV2.out.put (y := ⟨N, D, W, dn, fu⟩) hs1 hs2 (by omega) (by omega) f1 f2)
    have HR3 := Lib.hid (((grown_setRow w2 w.heap.size (devC N (.slice A1 n1 c1) (.slice A2 n2 c2) dn fu)).block (w.heap.size + 1) (heap_lt HR2b.out) (by simp)).trans HR2b.out)
    have HB3 := Lib.hid (below_setRow HB2.out (Nat.le_refl w.heap.size) (devC N (.slice A1 n1 c1) (.slice A2 n2 c2) dn fu))
    have O2 := Lib.hid (HT.out.two.farRow (HV1.out.lt) (devC N (.slice A1 n1 c1) (.slice A2 n2 c2) dn fu))
    have HW1 := Lib.hid HV1.out.lt
    have HW1b := Lib.hid (heap_lt HR1.out)
    clear hs1 hs2 hT hb2 a0 a1 a2 a3 a4
    go_wp2_with (first | fail | (refine wpList_store_row rfl 25 (.tmp 3) (.tmp 13) rfl w.heap.size #[.int .u32 N, .slice A1 n1 c1, .slice A2 n2 c2, .bool dn, .int .i64 fu] rfl rfl 25 _ HV2.out.row (by kernel_rfl) rfl (dev_one _ _ _ _ _ _ _ _ _) ?_; change wpList _ _ _ _ _ (w2.setRow w.heap.size (devC N (.slice A1 n1 c1) (.slice A2 n2 c2) dn fu)); generalize w2.setRow w.heap.size (devC N (.slice A1 n1 c1) (.slice A2 n2 c2) dn fu) = W3 at *; have b0 := HP.out.box.c0; have b1 := HP.out.box.c1; have b2 := HP.out.box.c2; have b3 := HP.out.box.c3; have b4 := HP.out.box.c4; have HRR := Lib.hid HR3.out))
    have e1 : W3.drew.cell? ⟨w.heap.size, 1, none⟩ = some (.slice A1 n1 c1) := b1
    clear b0 b1 b2 b3 b4
    have hdr : Below W3.heap.size W3 W3.drew := (Below.refl _ _).drew
    have HPd := Lib.hid (HP.out.below hdr)
    have HBd := Lib.hid (HB3.out.trans (hdr.mono HB3.out.size))
    have HRd := Lib.hid (below_row HRR.out hdr (heap_lt HRR.out))
    clear hdr
    refine wp_region_held_drew (S := fun _ => True) (by kernel_rfl) trivial (fun hHeld => ?_)
    refine take_at 0 23 (.pointer (some ⟨w.heap.size, 1, none⟩)) rfl (by rfl) (by kernel_rfl) (by kernel_rfl) (by kernel_rfl) (fun _ _ _ h => h) (Or.inl ⟨by rfl, fun w' hSw => by go_simp⟩) (by assumption) ?_
    simp only [List.setIfInBounds_toArray, List.set_cons_zero, List.set_cons_succ]
    refine take_at 2 25 (.int .u32 num) rfl (by rfl) (by kernel_rfl) (by kernel_rfl) (by kernel_rfl) (fun _ _ _ h => h) (Or.inl ⟨by rfl, fun w' hSw => by go_simp⟩) (by assumption) ?_
    simp only [List.setIfInBounds_toArray, List.set_cons_zero, List.set_cons_succ]
    refine take_at 3 26 (.string s) rfl (by rfl) (by kernel_rfl) (by kernel_rfl) (by kernel_rfl) (fun _ _ _ h => h) (Or.inl ⟨by rfl, fun w' hSw => by go_simp⟩) (by assumption) ?_
    simp only [List.setIfInBounds_toArray, List.set_cons_zero, List.set_cons_succ]
    refine wpAnyH_ready (rs := [1, 4]) (by kernel_rfl) (by simp) ?_
    refine all_at 1 24 (.slice A1 n1 c1) W3.drew rfl (by rfl) (by rfl) (by go_simp) trivial (fun hHeld => ?_) (AllReadyH.cons rfl (fun K hK => ?_) AllReadyH.nil)
    simp only [List.setIfInBounds_toArray, List.set_cons_zero, List.set_cons_succ]
    refine wpAnyH_ready (rs := [4]) (by kernel_rfl) (by simp) ?_
    refine AllReadyH.cons rfl (fun K hK => ?_) AllReadyH.nil
    go_simp
    go_wp2_with (go_at_call 28; refine (HC.out _).mono ?_; rintro e w' ⟨rfl, rfl⟩)
    refine hK.out _ _ trivial (fun hHeld => ?_)
    clear hK K
    refine take_at 5 28 (.agg #[.int .u32 num, .string (cutB s)]) rfl (by rfl) (by kernel_rfl) (by kernel_rfl) (by kernel_rfl) (fun _ _ _ h => h) (Or.inl ⟨by rfl, fun w' hSw => by go_simp⟩) (by assumption) ?_
    simp only [List.setIfInBounds_toArray, List.set_cons_zero, List.set_cons_succ]
    rotate_left
    go_simp
    go_wp2_with (go_at_call 28; refine (HC.out _).mono ?_; rintro e w' ⟨rfl, rfl⟩)
    refine hK.out _ _ trivial (fun hHeld => ?_)
    clear hK K
    refine take_at 5 28 (.agg #[.int .u32 num, .string (cutB s)]) rfl (by rfl) (by kernel_rfl) (by kernel_rfl) (by kernel_rfl) (fun _ _ _ h => h) (Or.inl ⟨by rfl, fun w' hSw => by go_simp⟩) (by assumption) ?_
    simp only [List.setIfInBounds_toArray, List.set_cons_zero, List.set_cons_succ]
    refine wpAnyH_ready (rs := [1]) (by kernel_rfl) (by simp) ?_
    refine all_at 1 24 (.slice A1 n1 c1) W3.drew rfl (by rfl) (by rfl) (by go_simp) trivial (fun hHeld => ?_) all_nil
    simp only [List.setIfInBounds_toArray, List.set_cons_zero, List.set_cons_succ]
    all_goals
      refine wpAnyH_ready (rs := [6]) (by kernel_rfl) (by simp) ?_
      refine AllReadyH.cons rfl (fun K hK => ?_) AllReadyH.nil
      rw [if_pos (by rfl)]
      go_simp
      obtain ⟨m1, m2, m3, B1, m4, m5⟩ := HPd.out.one
      have HPU := Lib.hid (refPut_any D ⟨num, cutB s⟩ A1 n1 c1 B1 m1 (by omega) W3.drew m4 m5)
      clear m1 m2 m3 m4 m5
      go_wp2_with (go_at_call 38; refine HPU.out.mono ?_; rintro e w6 ⟨v6, rfl, hM6⟩)
      obtain ⟨A6, n6, c6, rfl, hs6⟩ := SlB.of_mk hM6
      have HS6 := Lib.hid hs6
      have HV6 := Lib.hid (HPd.out.below hM6.2)
      have HR6 := Lib.hid (below_row HRd.out hM6.2 (heap_lt HRd.out))
      have HB6 := Lib.hid (HBd.out.trans (hM6.2.mono HBd.out.size))
      clear hM6 hs6
      refine hK.out _ _ trivial (fun hHeld => ?_)
      clear hK K
      refine take_at 7 30 (.pointer (some ⟨w.heap.size, 1, none⟩)) rfl (by rfl) (by kernel_rfl) (by kernel_rfl) (by kernel_rfl) (fun _ _ _ h => h) (Or.inl ⟨by rfl, fun w' hSw => by go_simp⟩) (by assumption) ?_
      simp only [List.setIfInBounds_toArray, List.set_cons_zero, List.set_cons_succ]
      have d2 := HV6.out.box.c1
      have g2 := HV6.out.box.fr 1
      refine wpAnyH_ready (rs := [8]) (by kernel_rfl) (by simp) ?_
      refine AllReadyH.cons rfl (fun K hK => ?_) AllReadyH.nil
      go_simp
      refine hK.out _ _ trivial (fun hHeld => ?_)
      clear hK K
      refine wpAnyH_done (by kernel_rfl) ?_ _
      have HV7 := Lib.hid (HV6.out.blocks HS6.out (by have h := HS6.out.1; have := HAL.out; omega))
      have HRR := Lib.hid (((grown_cell w6 w.heap.size 1 (.slice A6 n6 c6)).block (w.heap.size + 1) (heap_lt HR6.out) (by simp)).trans HR6.out)
      have HB7 := Lib.hid (HB6.out.setCell (p := ⟨w.heap.size, 1, none⟩) (Nat.le_refl _) (.slice A6 n6 c6))
      clear d2 g2
      generalize w6.setCell _ _ = w7 at *
      have e0 := HV7.out.box.c0
      have e1 := HV7.out.box.c1
      have e2 := HV7.out.box.c2
      have e3 := HV7.out.box.c3
      have e4 := HV7.out.box.c4
      go_wp2_with (refine wpList_store_row rfl 25 (.tmp 6) (.tmp 31) rfl (w.heap.size + 1) #[.int .u32 N, .slice A6 n6 c6, .slice A2 n2 c2, .bool dn, .int .i64 fu] rfl rfl 25 zAt HRR.out (by kernel_rfl) rfl (dev_one _ _ _ _ _ _ _ _ _) ?_)
      have hg2 := setRow_heap' (cs := #[.int .u32 N, .slice A6 n6 c6, .slice A2 n2 c2, .bool dn, .int .i64 fu]) HRR.out
      refine bodyPost_ret (v := .tuple #[.agg #[.int .u32 N, .slice A6 n6 c6, .slice A2 n2 c2, .bool dn, .int .i64 fu], .int .i64 0]) (results_row2 rfl _ _ (w.heap.size + 1) 25 #[.int .u32 N, .slice A6 n6 c6, .slice A2 n2 c2, .bool dn, .int .i64 fu] (0, 0) _ rfl hg2 Tryd.underlying25 rfl (by kernel_rfl) _ rfl) rfl ?_
      exact ⟨_, rfl, HV7.out.answer HRR.out _, below_setRow HB7.out (Nat.le_succ _) _⟩
end
section
set_option linter.unusedVariables false
set_option linter.unusedSimpArgs false
open Go.ChangeShapes Go.WideShapes Go.ChangeAt Go.RowKit
open Ar Rg St
open BigFrame
theorem DV.crashed {w : World} {b g n c m c' : Nat} {A A' : Option Addr} {x : De} (h : DV w b A n c A' m c' x) (hg : w.heap[g]? = some (.cells zAt 25 (0, 0))) (cs : Array Value) : DevAt (w.setRow g cs) (.agg #[.int .u32 x.N, .slice A n c, .slice none 0 0, .bool false, .int .i64 (-1)]) ⟨x.N, x.D, [], false, -1⟩ :=
  ⟨A, n, c, none, 0, 0, rfl, h.one.off_row (N := 0) (A1 := none) (A2 := none) (n1 := 0) (c1 := 0) (n2 := 0) (c2 := 0) (dn := false) (fu := 0) hg (grown_setRow _ _ _), ⟨rfl, Nat.le_refl _, Nat.zero_le _, 0, Nat.zero_le _, Ls.nil⟩, h.ln, Nat.zero_le _, show (-9223372036854775808 : Int) ≤ -1 by decide, show (-1 : Int) ≤ 9223372036854775807 by decide⟩
set_option maxRecDepth 100000 in
set_option maxHeartbeats 4000000 in
theorem refCrash_any (x : De) (K : List Bool) (AK : Option Addr) (nk ck : Nat) (v : Value) (w : World) (hv : DevAt w v x) (hK : SlK w AK nk K) :
    Calls Tryd.prog 25 #[v, .slice AK nk ck] w fun e w' => ∃ v', e = .returned (.tuple #[v', .int .i64 (chO x)]) ∧ DevAt w' v' (crX x (kp K)) ∧ Below w.heap.size w w' := by
  obtain ⟨A, n, c, A', m, c', rfl, hD, hW, hn, hm, f1, f2⟩ := hv
  obtain ⟨N, D, W, dn, fu⟩ := x
  dsimp only at hD hW f1 f2 ⊢
  obtain ⟨R1, R2, S0, Z0⟩ := two_new w (devC N (.slice A n c) (.slice A' m c') dn fu) zAt 25 25
  have HR2 := Lib.hid R2
  have HV0 := Lib.hid (show DV ((w.alloc (.cells (devC N (.slice A n c) (.slice A' m c') dn fu) 25)).alloc (.cells zAt 25)) w.heap.size A n c A' m c' ⟨N, D, W, dn, fu⟩ from ⟨R1, hD.below S0, hW.below S0, hn, hm, f1, f2⟩)
  have HS := Lib.hid S0
  have hD0 := hD.1
  have hW0 := hW.1
  clear hD hW S0 R1 R2 Z0
  have HKL := Lib.hid hK
  clear hK
  unfold devV
  cases hr : De.rt ⟨N, D, W, dn, fu⟩
  · have HE := Lib.hid (show chO ⟨N, D, W, dn, fu⟩ = 7 by unfold chO; rw [hr]; rfl)
    have HX := Lib.hid (show crX ⟨N, D, W, dn, fu⟩ (kp K) = De.zero by unfold crX; rw [hr]; rfl)
    have HCH := Lib.hid (show chO ⟨N, D, W, dn, fu⟩ = 7 by unfold chO; rw [hr]; rfl)
    rw [HE.out, HX.out]
    clear hr hD0 hW0 HE HX
    go_enter Tryd.func25, Tryd.ntmps25
    go_wp2_with fail
    generalize (w.alloc _).alloc _ = W0 at *
    go_at_call 23
    refine (refCheck_any N D W A A' n c m c' dn fu (by omega) (by omega) W0 HV0.out.one HV0.out.two).mono ?_
    rw [HCH.out]
    rintro e w1 ⟨rfl, hb1⟩
    have HB := Lib.hid (HS.out.trans (hb1.mono HS.out.size))
    have HV1 := Lib.hid (HV0.out.below hb1)
    have HR1 := Lib.hid (below_row HR2.out hb1 (heap_lt HR2.out))
    have a0 := HV1.out.box.c0
    have a1 := HV1.out.box.c1
    have a2 := HV1.out.box.c2
    have a3 := HV1.out.box.c3
    have a4 := HV1.out.box.c4
    clear hb1
    go_wp2_with (refine wpList_store_row rfl 25 (.tmp 4) (.tmp 11) rfl (w.heap.size + 1) #[.int .u32 0, .slice none 0 0, .slice none 0 0, .bool false, .int .i64 0] rfl rfl 25 zAt HR1.out (by kernel_rfl) rfl (dev_one _ _ _ _ _ _ _ _ _) ?_)
    have hg2 := setRow_heap' (cs := #[.int .u32 0, .slice none 0 0, .slice none 0 0, .bool false, .int .i64 0]) HR1.out
    refine bodyPost_ret (v := .tuple #[.agg #[.int .u32 0, .slice none 0 0, .slice none 0 0, .bool false, .int .i64 0], .int .i64 7]) (results_row2 rfl _ _ (w.heap.size + 1) 25 #[.int .u32 0, .slice none 0 0, .slice none 0 0, .bool false, .int .i64 0] (0, 0) _ rfl hg2 Tryd.underlying25 rfl (by kernel_rfl) _ rfl) rfl ?_
    exact ⟨_, rfl, DevAt.zero _, below_setRow HB.out (Nat.le_succ _) _⟩
  · have HCH := Lib.hid (show chO ⟨N, D, W, dn, fu⟩ = 0 from chO_zero.2 hr)
    have hlen := rt_len hr
    dsimp only at hlen
    have hnl : n ≤ 65536 := by omega
    have hml : m ≤ 16384 := by omega
    have HDL := Lib.hid (show D.length ≤ 65536 from hlen.1)
    have HWL := Lib.hid (show W.length ≤ 16384 from hlen.2)
    clear hlen hD0 hW0
    have HX := Lib.hid (show crX ⟨N, D, W, dn, fu⟩ (kp K) = ⟨N, app D (kpt (kp K) W W.length), [], false, -1⟩ from cr_at _ hr)
    rw [HCH.out, HX.out]
    clear hr HX
    go_enter Tryd.func25, Tryd.ntmps25
    go_wp2_with fail
    generalize (w.alloc _).alloc _ = W0 at *
    go_at_call 23
    refine (refCheck_any N D W A A' n c m c' dn fu (by omega) (by omega) W0 HV0.out.one HV0.out.two).mono ?_
    rw [HCH.out]
    rintro e w1 ⟨rfl, hb1⟩
    have HB := Lib.hid (HS.out.trans (hb1.mono HS.out.size))
    have HV1 := Lib.hid (HV0.out.below hb1)
    have HR1 := Lib.hid (below_row HR2.out hb1 (heap_lt HR2.out))
    have a0 := HV1.out.box.c0
    have a1 := HV1.out.box.c1
    have a2 := HV1.out.box.c2
    have a3 := HV1.out.box.c3
    have a4 := HV1.out.box.c4
    clear hb1
    go_wp2_with fail
    go_at_call 13
    refine (refCopy_any N D W A A' n c m c' dn fu (by omega) (by omega) w1 HV1.out.one HV1.out.two).mono ?_
    rintro e w2 ⟨v1, v2, rfl, hT, hb2⟩
    obtain ⟨A1, n1, c1, rfl, hs1⟩ := hT.one.sl
    obtain ⟨A2, n2, c2, rfl, hs2⟩ := hT.two.sl
    have HT := Lib.hid hT
    have hn1 : n1 ≤ 65536 := by have h1 := hs1.1; have h2 : n = D.length := HV1.out.one.1; omega
    have hn2 : n2 ≤ 16384 := by have h1 := hs2.1; have h2 : m = W.length := HV1.out.two.1; omega
    have HV2 := Lib.hid (HV1.out.below hb2)
    have HR2b := Lib.hid (below_row HR1.out hb2 (heap_lt HR1.out))
    have HB2 := Lib.hid (HB.out.trans (hb2.mono HB.out.size))
    have HP := Lib.hid (show DV (w2.setRow w.heap.size (devC N (.slice A1 n1 c1) (.slice A2 n2 c2) dn fu)) w.heap.size A1 n1 c1 A2 n2 c2 ⟨N, D, W, dn, fu⟩ from HV2.out.put (y := ⟨N, D, W, dn, fu⟩) hs1 hs2 (by omega) (by omega) f1 f2)
    have HR3 := Lib.hid (((grown_setRow w2 w.heap.size (devC N (.slice A1 n1 c1) (.slice A2 n2 c2) dn fu)).block (w.heap.size + 1) (heap_lt HR2b.out) (by simp)).trans HR2b.out)
    have HB3 := Lib.hid (below_setRow HB2.out (Nat.le_refl w.heap.size) (devC N (.slice A1 n1 c1) (.slice A2 n2 c2) dn fu))
    have O2 := Lib.hid (HT.out.two.farRow (HV1.out.lt) (devC N (.slice A1 n1 c1) (.slice A2 n2 c2) dn fu))
    have HW1 := Lib.hid HV1.out.lt
    have HW1b := Lib.hid (heap_lt HR1.out)
    clear hs1 hs2 hT hb2 a0 a1 a2 a3 a4
    go_wp2_with (first | fail | (refine wpList_store_row rfl 25 (.tmp 2) (.tmp 13) rfl w.heap.size #[.int .u32 N, .slice A1 n1 c1, .slice A2 n2 c2, .bool dn, .int .i64 fu] rfl rfl 25 _ HV2.out.row (by kernel_rfl) rfl (dev_one _ _ _ _ _ _ _ _ _) ?_; change wpList _ _ _ _ _ (w2.setRow w.heap.size (devC N (.slice A1 n1 c1) (.slice A2 n2 c2) dn fu)); generalize w2.setRow w.heap.size (devC N (.slice A1 n1 c1) (.slice A2 n2 c2) dn fu) = W3 at *; have b0 := HP.out.box.c0; have b1 := HP.out.box.c1; have b2 := HP.out.box.c2; have b3 := HP.out.box.c3; have b4 := HP.out.box.c4; have HRR := Lib.hid HR3.out))
    clear b0 b1 b2 b3 b4
    go_loopw [17] (fun v wr => ∃ (i : Nat) (A3 : Option Addr) (n3 c3 : Nat), i ≤ n2 ∧ v = .int .i64 i ∧ Hid (DV wr w.heap.size A3 n3 c3 A2 n2 c2 ⟨N, app D (kpt (kp K) W i), W, dn, fu⟩) ∧ Hid (wr.heap[w.heap.size + 1]? = some (.cells zAt 25 (0, 0))) ∧ Hid (Below w.heap.size w wr)) (fun v _ => n2 - (intOf v).toNat)
    case atStart => exact ⟨0, A1, n1, c1, Nat.zero_le _, by go_num, HP.out, HRR.out, HB3.out⟩
    case round =>
      clear HP HRR HB3
      obtain ⟨i, A3, n3, c3, hi, rfl, hp, hrr, hbel⟩ := hrel
      have HP := Lib.hid (Hid.out hp)
      have HRR := Lib.hid (Hid.out hrr)
      have HB3 := Lib.hid (Hid.out hbel)
      have HNW := Lib.hid (show n2 = W.length from HP.out.two.1)
      clear hp hrr hbel
      by_cases hlt : i < n2
      · obtain ⟨q, hq⟩ : ∃ q, W[i]? = some q := ⟨_, List.getElem?_eq_getElem (by rw [← HNW.out]; exact hlt)⟩
        obtain ⟨-, -, -, BB, hBB, hLL⟩ := HP.out.two
        obtain ⟨b, z, hAe, hbb, hr⟩ := hLL i q hq
        have hbs : b < wr.heap.size := Nat.lt_of_lt_of_le hbb hBB
        have hc0 : wr.cell? ⟨b, z + i * 2, none⟩ = some (.int .u32 q.n) := hr 0 _ rfl
        have hc1 : wr.cell? ⟨b, z + i * 2 + 1, none⟩ = some (.string q.d) := hr 1 _ rfl
        subst hAe
        clear hr hLL
        have hal : Below wr.heap.size wr (wr.alloc (.cells #[.int .u32 q.n, .string q.d] 41)) := (Below.refl _ _).alloc (Nat.le_refl _) _
        have HPa := Lib.hid (HP.out.below hal)
        have HRa := Lib.hid (below_row HRR.out hal (heap_lt HRR.out))
        have HBa := Lib.hid (HB3.out.trans (hal.mono HB3.out.size))
        have hd0 : (wr.alloc (.cells #[.int .u32 q.n, .string q.d] 41)).cell? ⟨wr.heap.size, 0, none⟩ = some (.int .u32 q.n) := by simp
        have hd1 : (wr.alloc (.cells #[.int .u32 q.n, .string q.d] 41)).cell? ⟨wr.heap.size, 1, none⟩ = some (.string q.d) := by simp
        have p1 := HPa.out.box.c1
        have HKi := Lib.hid (HKL.out.below HBa.out)
        cases hki : kp K i
        · have HST := Lib.hid (show app D (kpt (kp K) W i) = app D (kpt (kp K) W (i + 1)) by rw [kpt, hki]; simp)
          clear hq
          by_cases hik : i < nk
          · have hik2 : decide ((i : Int) < (nk : Int)) = true := decide_eq_true (by omega)
            obtain ⟨b9, o9, hA9, hb9, hc9⟩ := HKi.out.2 i (by rw [← HKi.out.1]; exact hik)
            have hv9 : K[i]'(by rw [← HKi.out.1]; exact hik) = false := by unfold kp at hki; rw [List.getElem?_eq_getElem (by rw [← HKi.out.1]; exact hik)] at hki; exact hki
            rw [hv9] at hc9
            subst hA9
            clear hki hv9
            go_wp2
            exact ⟨⟨i + 1, A3, n3, c3, by omega, by go_num, show DV _ _ _ _ _ _ _ _ ⟨N, app D (kpt (kp K) W (i + 1)), W, dn, fu⟩ from HST.out ▸ HPa.out, HRa.out, HBa.out⟩, by simp [intOf] <;> omega⟩
          · have hik2 : decide ((i : Int) < (nk : Int)) = false := decide_eq_false (by omega)
            clear hki
            go_wp2
            exact ⟨⟨i + 1, A3, n3, c3, by omega, by go_num, show DV _ _ _ _ _ _ _ _ ⟨N, app D (kpt (kp K) W (i + 1)), W, dn, fu⟩ from HST.out ▸ HPa.out, HRa.out, HBa.out⟩, by simp [intOf] <;> omega⟩
        · have HST := Lib.hid (show don q (app D (kpt (kp K) W i)) = app D (kpt (kp K) W (i + 1)) by rw [kpt, hki, hq, if_pos rfl]; exact (app_snoc _ _ _).symm)
          have hik : i < nk := by
            rcases Nat.lt_or_ge i nk with h | h
            · exact h
            · unfold kp at hki; rw [List.getElem?_eq_none (by rw [← HKi.out.1]; exact h)] at hki; cases hki
          have hik2 : decide ((i : Int) < (nk : Int)) = true := decide_eq_true (by omega)
          obtain ⟨b9, o9, hA9, hb9, hc9⟩ := HKi.out.2 i (by rw [← HKi.out.1]; exact hik)
          have hv9 : K[i]'(by rw [← HKi.out.1]; exact hik) = true := by unfold kp at hki; rw [List.getElem?_eq_getElem (by rw [← HKi.out.1]; exact hik)] at hki; exact hki
          rw [hv9] at hc9
          subst hA9
          have HLE := Lib.hid (show (app D (kpt (kp K) W i)).length ≤ 81920 by have h1 := app_len D (kpt (kp K) W i); have h2 := kpt_len (kp K) W i; have := HDL.out; omega)
          have HLE2 := Lib.hid (show (app D (kpt (kp K) W (i + 1))).length ≤ 81921 by have h1 := app_len D (kpt (kp K) W (i + 1)); have h2 := kpt_len (kp K) W (i + 1); have := HDL.out; omega)
          clear hq hki hv9
          go_wp2_with fail
          go_at_call 38
          obtain ⟨m1, m2, m3, B1, m4, m5⟩ := HPa.out.one
          refine (refPut_any _ q A3 n3 c3 B1 m1 (by have h := HLE.out; dsimp only at m1; omega) (wr.alloc (.cells #[.int .u32 q.n, .string q.d] 41)) m4 m5).mono ?_
          clear m1 m2 m3 m4 m5
          rintro e w6 ⟨v6, rfl, hM6⟩
          obtain ⟨A6, n6, c6, rfl, hs6⟩ := SlB.of_mk hM6
          have HV6 := Lib.hid (HPa.out.below hM6.2)
          have HR6 := Lib.hid (below_row HRa.out hM6.2 (heap_lt HRa.out))
          have HB6 := Lib.hid (HBa.out.trans (hM6.2.mono HBa.out.size))
          have HS6 := Lib.hid (show SlB w6 A6 n6 c6 (app D (kpt (kp K) W (i + 1))) from HST.out ▸ hs6)
          clear hM6 hs6 hc9 hc0 hc1 hd0 hd1 p1 hal
          have d2 := HV6.out.box.c1
          have g2 := HV6.out.box.fr 1
          have HV7 := Lib.hid (HV6.out.blocks HS6.out (by have h := HS6.out.1; have := HLE2.out; omega))
          have HR7 := Lib.hid (((grown_cell w6 w.heap.size 1 (.slice A6 n6 c6)).block (w.heap.size + 1) (heap_lt HR6.out) (by simp)).trans HR6.out)
          have HB7 := Lib.hid (HB6.out.setCell (p := ⟨w.heap.size, 1, none⟩) (Nat.le_refl _) (.slice A6 n6 c6))
          go_wp2
          exact ⟨⟨i + 1, A6, n6, c6, by omega, by go_num, HV7.out, HR7.out, HB7.out⟩, by simp [intOf] <;> omega⟩
      · obtain rfl : i = n2 := by omega
        have HP9 := Lib.hid (show DV wr w.heap.size A3 n3 c3 A2 i c2 ⟨N, app D (kpt (kp K) W W.length), W, dn, fu⟩ from HNW.out ▸ HP.out)
        have p0 := HP.out.box.c0
        have p1 := HP.out.box.c1
        go_wp2_with (refine wpList_store_row rfl 25 (.tmp 4) (.tmp 42) rfl (w.heap.size + 1) #[.int .u32 N, .slice A3 n3 c3, .slice none 0 0, .bool false, .int .i64 (-1)] rfl rfl 25 zAt HRR.out (by kernel_rfl) rfl (dev_one _ _ _ _ _ _ _ _ _) ?_)
        have hg2 := setRow_heap' (cs := #[.int .u32 N, .slice A3 n3 c3, .slice none 0 0, .bool false, .int .i64 (-1)]) HRR.out
        refine bodyPost_ret (v := .tuple #[.agg #[.int .u32 N, .slice A3 n3 c3, .slice none 0 0, .bool false, .int .i64 (-1)], .int .i64 0]) (results_row2 rfl _ _ (w.heap.size + 1) 25 #[.int .u32 N, .slice A3 n3 c3, .slice none 0 0, .bool false, .int .i64 (-1)] (0, 0) _ rfl hg2 Tryd.underlying25 rfl (by kernel_rfl) _ rfl) rfl ?_
        exact ⟨_, rfl, HP9.out.crashed HRR.out _, below_setRow HB3.out (Nat.le_succ _) _⟩
set_option maxRecDepth 100000 in
set_option maxHeartbeats 4000000 in
theorem refFlush_any (x : De)  (v : Value) (w : World) (hv : DevAt w v x) :
    Calls Tryd.prog 17 #[v] w fun e w' => ∃ v', e = .returned (.tuple #[v', .int .i64 (flO x)]) ∧ DevAt w' v' (flX x) ∧ Below w.heap.size w w' := by
  obtain ⟨A, n, c, A', m, c', rfl, hD, hW, hn, hm, f1, f2⟩ := hv
  obtain ⟨N, D, W, dn, fu⟩ := x
  dsimp only at hD hW f1 f2 ⊢
  obtain ⟨R1, R2, S0, Z0⟩ := two_new w (devC N (.slice A n c) (.slice A' m c') dn fu) zAt 25 25
  have HR2 := Lib.hid R2
  have HV0 := Lib.hid (show DV ((w.alloc (.cells (devC N (.slice A n c) (.slice A' m c') dn fu) 25)).alloc (.cells zAt 25)) w.heap.size A n c A' m c' ⟨N, D, W, dn, fu⟩ from ⟨R1, hD.below S0, hW.below S0, hn, hm, f1, f2⟩)
  have HS := Lib.hid S0
  have hD0 := hD.1
  have hW0 := hW.1
  clear hD hW S0 R1 R2 Z0
  unfold devV
  cases hr : De.rt ⟨N, D, W, dn, fu⟩
  · have HE := Lib.hid (show flO ⟨N, D, W, dn, fu⟩ = 7 by unfold flO; rw [hr]; rfl)
    have HX := Lib.hid (show flX ⟨N, D, W, dn, fu⟩ = De.zero by unfold flX; rw [hr]; rfl)
    have HCH := Lib.hid (show chO ⟨N, D, W, dn, fu⟩ = 7 by unfold chO; rw [hr]; rfl)
    rw [HE.out, HX.out]
    clear hr hD0 hW0 HE HX
    go_enter Tryd.func17, Tryd.ntmps17
    go_wp2_with fail
    generalize (w.alloc _).alloc _ = W0 at *
    go_at_call 23
    refine (refCheck_any N D W A A' n c m c' dn fu (by omega) (by omega) W0 HV0.out.one HV0.out.two).mono ?_
    rw [HCH.out]
    rintro e w1 ⟨rfl, hb1⟩
    have HB := Lib.hid (HS.out.trans (hb1.mono HS.out.size))
    have HV1 := Lib.hid (HV0.out.below hb1)
    have HR1 := Lib.hid (below_row HR2.out hb1 (heap_lt HR2.out))
    have a0 := HV1.out.box.c0
    have a1 := HV1.out.box.c1
    have a2 := HV1.out.box.c2
    have a3 := HV1.out.box.c3
    have a4 := HV1.out.box.c4
    clear hb1
    go_wp2_with (refine wpList_store_row rfl 25 (.tmp 2) (.tmp 9) rfl (w.heap.size + 1) #[.int .u32 0, .slice none 0 0, .slice none 0 0, .bool false, .int .i64 0] rfl rfl 25 zAt HR1.out (by kernel_rfl) rfl (dev_one _ _ _ _ _ _ _ _ _) ?_)
    have hg2 := setRow_heap' (cs := #[.int .u32 0, .slice none 0 0, .slice none 0 0, .bool false, .int .i64 0]) HR1.out
    refine bodyPost_ret (v := .tuple #[.agg #[.int .u32 0, .slice none 0 0, .slice none 0 0, .bool false, .int .i64 0], .int .i64 7]) (results_row2 rfl _ _ (w.heap.size + 1) 25 #[.int .u32 0, .slice none 0 0, .slice none 0 0, .bool false, .int .i64 0] (0, 0) _ rfl hg2 Tryd.underlying25 rfl (by kernel_rfl) _ rfl) rfl ?_
    exact ⟨_, rfl, DevAt.zero _, below_setRow HB.out (Nat.le_succ _) _⟩
  · have HCH := Lib.hid (show chO ⟨N, D, W, dn, fu⟩ = 0 from chO_zero.2 hr)
    have hlen := rt_len hr
    dsimp only at hlen
    have hnl : n ≤ 65536 := by omega
    have hml : m ≤ 16384 := by omega
    have HDL := Lib.hid (show D.length ≤ 65536 from hlen.1)
    have HWL := Lib.hid (show W.length ≤ 16384 from hlen.2)
    clear hlen hD0 hW0
    cases dn
    · by_cases h0 : fu = 0
      · subst h0
        have HE := Lib.hid (show flO ⟨N, D, W, false, 0⟩ = 17 by unfold flO; rw [hr]; rfl)
        have HX := Lib.hid (show flX ⟨N, D, W, false, 0⟩ = ⟨N, D, W, true, 0⟩ by unfold flX; rw [hr]; rfl)
        rw [HE.out, HX.out]
        clear hr HE HX
        go_enter Tryd.func17, Tryd.ntmps17
        go_wp2_with fail
        generalize (w.alloc _).alloc _ = W0 at *
        go_at_call 23
        refine (refCheck_any N D W A A' n c m c' false 0 (by omega) (by omega) W0 HV0.out.one HV0.out.two).mono ?_
        rw [HCH.out]
        rintro e w1 ⟨rfl, hb1⟩
        have HB := Lib.hid (HS.out.trans (hb1.mono HS.out.size))
        have HV1 := Lib.hid (HV0.out.below hb1)
        have HR1 := Lib.hid (below_row HR2.out hb1 (heap_lt HR2.out))
        have a0 := HV1.out.box.c0
        have a1 := HV1.out.box.c1
        have a2 := HV1.out.box.c2
        have a3 := HV1.out.box.c3
        have a4 := HV1.out.box.c4
        clear hb1
        go_wp2_with fail
        go_at_call 13
        refine (refCopy_any N D W A A' n c m c' false 0 (by omega) (by omega) w1 HV1.out.one HV1.out.two).mono ?_
        rintro e w2 ⟨v1, v2, rfl, hT, hb2⟩
        obtain ⟨A1, n1, c1, rfl, hs1⟩ := hT.one.sl
        obtain ⟨A2, n2, c2, rfl, hs2⟩ := hT.two.sl
        have HT := Lib.hid hT
        have hn1 : n1 ≤ 65536 := by have h1 := hs1.1; have h2 : n = D.length := HV1.out.one.1; omega
        have hn2 : n2 ≤ 16384 := by have h1 := hs2.1; have h2 : m = W.length := HV1.out.two.1; omega
        have HV2 := Lib.hid (HV1.out.below hb2)
        have HR2b := Lib.hid (below_row HR1.out hb2 (heap_lt HR1.out))
        have HB2 := Lib.hid (HB.out.trans (hb2.mono HB.out.size))
        have HP := Lib.hid (show DV (w2.setRow w.heap.size (devC N (.slice A1 n1 c1) (.slice A2 n2 c2) false 0)) w.heap.size A1 n1 c1 A2 n2 c2 ⟨N, D, W, false, 0⟩ from HV2.out.put (y := ⟨N, D, W, false, 0⟩) hs1 hs2 (by omega) (by omega) f1 f2)
        have HR3 := Lib.hid (((grown_setRow w2 w.heap.size (devC N (.slice A1 n1 c1) (.slice A2 n2 c2) false 0)).block (w.heap.size + 1) (heap_lt HR2b.out) (by simp)).trans HR2b.out)
        have HB3 := Lib.hid (below_setRow HB2.out (Nat.le_refl w.heap.size) (devC N (.slice A1 n1 c1) (.slice A2 n2 c2) false 0))
        have O2 := Lib.hid (HT.out.two.farRow (HV1.out.lt) (devC N (.slice A1 n1 c1) (.slice A2 n2 c2) false 0))
        have HW1 := Lib.hid HV1.out.lt
        have HW1b := Lib.hid (heap_lt HR1.out)
        clear hs1 hs2 hT hb2 a0 a1 a2 a3 a4
        go_wp2_with (first | (refine wpList_store_row rfl 25 (.tmp 2) (.tmp 20) rfl (w.heap.size + 1) #[.int .u32 N, .slice A1 n1 c1, .slice A2 n2 c2, .bool true, .int .i64 0] rfl rfl 25 zAt HRR.out (by kernel_rfl) rfl (dev_one _ _ _ _ _ _ _ _ _) ?_) | (refine wpList_store_row rfl 25 (.tmp 1) (.tmp 11) rfl w.heap.size #[.int .u32 N, .slice A1 n1 c1, .slice A2 n2 c2, .bool false, .int .i64 0] rfl rfl 25 _ HV2.out.row (by kernel_rfl) rfl (dev_one _ _ _ _ _ _ _ _ _) ?_; change wpList _ _ _ _ _ (w2.setRow w.heap.size (devC N (.slice A1 n1 c1) (.slice A2 n2 c2) false 0)); generalize w2.setRow w.heap.size (devC N (.slice A1 n1 c1) (.slice A2 n2 c2) false 0) = W3 at *; have b0 := HP.out.box.c0; have b1 := HP.out.box.c1; have b2 := HP.out.box.c2; have b3 := HP.out.box.c3; have b4 := HP.out.box.c4; have g3 := HP.out.box.fr 3; have HV7 := Lib.hid (HP.out.down true); have HRR := Lib.hid (((grown_cell W3 w.heap.size 3 (.bool true)).block (w.heap.size + 1) (heap_lt HR3.out) (by simp)).trans HR3.out); have HB7 := Lib.hid (HB3.out.setCell (p := ⟨w.heap.size, 3, none⟩) (Nat.le_refl _) (.bool true))))
        have hg2 := setRow_heap' (cs := #[.int .u32 N, .slice A1 n1 c1, .slice A2 n2 c2, .bool true, .int .i64 0]) HRR.out
        refine bodyPost_ret (v := .tuple #[.agg #[.int .u32 N, .slice A1 n1 c1, .slice A2 n2 c2, .bool true, .int .i64 0], .int .i64 17]) (results_row2 rfl _ _ (w.heap.size + 1) 25 #[.int .u32 N, .slice A1 n1 c1, .slice A2 n2 c2, .bool true, .int .i64 0] (0, 0) _ rfl hg2 Tryd.underlying25 rfl (by kernel_rfl) _ rfl) rfl ?_
        exact ⟨_, rfl, HV7.out.answer HRR.out _, below_setRow HB7.out (Nat.le_succ _) _⟩
      · have HE := Lib.hid (show flO ⟨N, D, W, false, fu⟩ = 0 by unfold flO burnE; rw [hr, if_pos rfl, if_neg Bool.false_ne_true, if_neg h0])
        have HX := Lib.hid (show flX ⟨N, D, W, false, fu⟩ = ⟨N, app D W, [], false, burnF fu⟩ from fl_at HE.out)
        rw [HE.out, HX.out]
        have q0 : decide (fu = 0) = false := decide_eq_false h0
        clear hr HE HX
        by_cases h1 : 0 < fu
        · have q1 : decide (0 < fu) = true := decide_eq_true h1
          rw [show burnF fu = fu - 1 by unfold burnF; rw [if_pos h1]]
          go_enter Tryd.func17, Tryd.ntmps17
          go_wp2_with fail
          generalize (w.alloc _).alloc _ = W0 at *
          go_at_call 23
          refine (refCheck_any N D W A A' n c m c' false fu (by omega) (by omega) W0 HV0.out.one HV0.out.two).mono ?_
          rw [HCH.out]
          rintro e w1 ⟨rfl, hb1⟩
          have HB := Lib.hid (HS.out.trans (hb1.mono HS.out.size))
          have HV1 := Lib.hid (HV0.out.below hb1)
          have HR1 := Lib.hid (below_row HR2.out hb1 (heap_lt HR2.out))
          have a0 := HV1.out.box.c0
          have a1 := HV1.out.box.c1
          have a2 := HV1.out.box.c2
          have a3 := HV1.out.box.c3
          have a4 := HV1.out.box.c4
          clear hb1
          go_wp2_with fail
          go_at_call 13
          refine (refCopy_any N D W A A' n c m c' false fu (by omega) (by omega) w1 HV1.out.one HV1.out.two).mono ?_
          rintro e w2 ⟨v1, v2, rfl, hT, hb2⟩
          obtain ⟨A1, n1, c1, rfl, hs1⟩ := hT.one.sl
          obtain ⟨A2, n2, c2, rfl, hs2⟩ := hT.two.sl
          have HT := Lib.hid hT
          have hn1 : n1 ≤ 65536 := by have h1 := hs1.1; have h2 : n = D.length := HV1.out.one.1; omega
          have hn2 : n2 ≤ 16384 := by have h1 := hs2.1; have h2 : m = W.length := HV1.out.two.1; omega
          have HV2 := Lib.hid (HV1.out.below hb2)
          have HR2b := Lib.hid (below_row HR1.out hb2 (heap_lt HR1.out))
          have HB2 := Lib.hid (HB.out.trans (hb2.mono HB.out.size))
          have HP := Lib.hid (show DV (w2.setRow w.heap.size (devC N (.slice A1 n1 c1) (.slice A2 n2 c2) false fu)) w.heap.size A1 n1 c1 A2 n2 c2 ⟨N, D, W, false, fu⟩ from HV2.out.put (y := ⟨N, D, W, false, fu⟩) hs1 hs2 (by omega) (by omega) f1 f2)
          have HR3 := Lib.hid (((grown_setRow w2 w.heap.size (devC N (.slice A1 n1 c1) (.slice A2 n2 c2) false fu)).block (w.heap.size + 1) (heap_lt HR2b.out) (by simp)).trans HR2b.out)
          have HB3 := Lib.hid (below_setRow HB2.out (Nat.le_refl w.heap.size) (devC N (.slice A1 n1 c1) (.slice A2 n2 c2) false fu))
          have O2 := Lib.hid (HT.out.two.farRow (HV1.out.lt) (devC N (.slice A1 n1 c1) (.slice A2 n2 c2) false fu))
          have HW1 := Lib.hid HV1.out.lt
          have HW1b := Lib.hid (heap_lt HR1.out)
          clear hs1 hs2 hT hb2 a0 a1 a2 a3 a4
          go_wp2_with (first | fail | (refine wpList_store_row rfl 25 (.tmp 1) (.tmp 11) rfl w.heap.size #[.int .u32 N, .slice A1 n1 c1, .slice A2 n2 c2, .bool false, .int .i64 fu] rfl rfl 25 _ HV2.out.row (by kernel_rfl) rfl (dev_one _ _ _ _ _ _ _ _ _) ?_; change wpList _ _ _ _ _ (w2.setRow w.heap.size (devC N (.slice A1 n1 c1) (.slice A2 n2 c2) false fu)); generalize w2.setRow w.heap.size (devC N (.slice A1 n1 c1) (.slice A2 n2 c2) false fu) = W3 at *; have b0 := HP.out.box.c0; have b1 := HP.out.box.c1; have b2 := HP.out.box.c2; have b3 := HP.out.box.c3; have b4 := HP.out.box.c4; have g4 := HP.out.box.fr 4))
          clear b0 b1 b2 b3 b4 g4
          have HP8 := Lib.hid (HP.out.fuse (fu - 1) (by omega) (by omega))
          have HRR8 := Lib.hid (((grown_cell W3 w.heap.size 4 (.int .i64 (fu - 1))).block (w.heap.size + 1) (heap_lt HR3.out) (by simp)).trans HR3.out)
          have HB8 := Lib.hid (HB3.out.setCell (p := ⟨w.heap.size, 4, none⟩) (Nat.le_refl _) (.int .i64 (fu - 1)))
          generalize W3.setCell _ _ = W8 at *
          clear HP HB3
          have HP := Lib.hid (show DV W8 w.heap.size A1 n1 c1 A2 n2 c2 ⟨N, app D (W.take 0), W, false, fu - 1⟩ from HP8.out)
          have HRR := HRR8
          have HB3 := HB8
          have b0 := trivial
          have b1 := trivial
          have b2 := trivial
          have b3 := trivial
          have b4 := trivial
          clear b0 b1 b2 b3 b4
          go_loopw [31] (fun v wr => ∃ (i : Nat) (A3 : Option Addr) (n3 c3 : Nat), i ≤ n2 ∧ v = .int .i64 i ∧ Hid (DV wr w.heap.size A3 n3 c3 A2 n2 c2 ⟨N, app D (W.take i), W, false, (fu - 1)⟩) ∧ Hid (wr.heap[w.heap.size + 1]? = some (.cells zAt 25 (0, 0))) ∧ Hid (Below w.heap.size w wr)) (fun v _ => n2 - (intOf v).toNat)
          case atStart => exact ⟨0, A1, n1, c1, Nat.zero_le _, by go_num, HP.out, HRR.out, HB3.out⟩
          case round =>
            clear HP HRR HB3
            obtain ⟨i, A3, n3, c3, hi, rfl, hp, hrr, hbel⟩ := hrel
            have HP := Lib.hid (Hid.out hp)
            have HRR := Lib.hid (Hid.out hrr)
            have HB3 := Lib.hid (Hid.out hbel)
            have HNW := Lib.hid (show n2 = W.length from HP.out.two.1)
            clear hp hrr hbel
            by_cases hlt : i < n2
            · obtain ⟨q, hq⟩ : ∃ q, W[i]? = some q := ⟨_, List.getElem?_eq_getElem (by rw [← HNW.out]; exact hlt)⟩
              obtain ⟨-, -, -, BB, hBB, hLL⟩ := HP.out.two
              obtain ⟨b, z, hAe, hbb, hr⟩ := hLL i q hq
              have hbs : b < wr.heap.size := Nat.lt_of_lt_of_le hbb hBB
              have hc0 : wr.cell? ⟨b, z + i * 2, none⟩ = some (.int .u32 q.n) := hr 0 _ rfl
              have hc1 : wr.cell? ⟨b, z + i * 2 + 1, none⟩ = some (.string q.d) := hr 1 _ rfl
              subst hAe
              clear hr hLL
              have hal : Below wr.heap.size wr (wr.alloc (.cells #[.int .u32 q.n, .string q.d] 41)) := (Below.refl _ _).alloc (Nat.le_refl _) _
              have HPa := Lib.hid (HP.out.below hal)
              have HRa := Lib.hid (below_row HRR.out hal (heap_lt HRR.out))
              have HBa := Lib.hid (HB3.out.trans (hal.mono HB3.out.size))
              have hd0 : (wr.alloc (.cells #[.int .u32 q.n, .string q.d] 41)).cell? ⟨wr.heap.size, 0, none⟩ = some (.int .u32 q.n) := by simp
              have hd1 : (wr.alloc (.cells #[.int .u32 q.n, .string q.d] 41)).cell? ⟨wr.heap.size, 1, none⟩ = some (.string q.d) := by simp
              have p1 := HPa.out.box.c1
              have HST := Lib.hid (show don q (app D (W.take i)) = app D (W.take (i + 1)) by rw [take_snocB hq, app_snoc])
              have HLE := Lib.hid (show (app D (W.take i)).length ≤ 81920 by have h1 := app_len D (W.take i); have h2 : (W.take i).length ≤ W.length := by rw [List.length_take]; omega
                                                                             have := HDL.out; have := HWL.out; omega)
              have HLE2 := Lib.hid (show (app D (W.take (i + 1))).length ≤ 81920 by have h1 := app_len D (W.take (i + 1)); have h2 : (W.take (i + 1)).length ≤ W.length := by rw [List.length_take]; omega
                                                                                    have := HDL.out; have := HWL.out; omega)
              clear hq
              go_wp2_with fail
              go_at_call 38
              obtain ⟨m1, m2, m3, B1, m4, m5⟩ := HPa.out.one
              refine (refPut_any _ q A3 n3 c3 B1 m1 (by have h := HLE.out; dsimp only at m1; omega) (wr.alloc (.cells #[.int .u32 q.n, .string q.d] 41)) m4 m5).mono ?_
              clear m1 m2 m3 m4 m5
              rintro e w6 ⟨v6, rfl, hM6⟩
              obtain ⟨A6, n6, c6, rfl, hs6⟩ := SlB.of_mk hM6
              have HV6 := Lib.hid (HPa.out.below hM6.2)
              have HR6 := Lib.hid (below_row HRa.out hM6.2 (heap_lt HRa.out))
              have HB6 := Lib.hid (HBa.out.trans (hM6.2.mono HBa.out.size))
              have HS6 := Lib.hid (show SlB w6 A6 n6 c6 (app D (W.take (i + 1))) from HST.out ▸ hs6)
              clear hM6 hs6 hc0 hc1 hd0 hd1 p1 hal
              have d2 := HV6.out.box.c1
              have g2 := HV6.out.box.fr 1
              have HV7 := Lib.hid (HV6.out.blocks HS6.out (by have h := HS6.out.1; have := HLE2.out; omega))
              have HR7 := Lib.hid (((grown_cell w6 w.heap.size 1 (.slice A6 n6 c6)).block (w.heap.size + 1) (heap_lt HR6.out) (by simp)).trans HR6.out)
              have HB7 := Lib.hid (HB6.out.setCell (p := ⟨w.heap.size, 1, none⟩) (Nat.le_refl _) (.slice A6 n6 c6))
              go_wp2
              exact ⟨⟨i + 1, A6, n6, c6, by omega, by go_num, HV7.out, HR7.out, HB7.out⟩, by simp [intOf] <;> omega⟩
            · obtain rfl : i = n2 := by omega
              have HP9 := Lib.hid (show DV wr w.heap.size A3 n3 c3 A2 i c2 ⟨N, app D W, W, false, (fu - 1)⟩ from by have h := HP.out; rwa [List.take_of_length_le (by rw [← HNW.out]; exact Nat.le_refl _)] at h)
              have p2 := HP9.out.box.c2
              have g2 := HP9.out.box.fr 2
              have HV7 := Lib.hid (HP9.out.nowait)
              have y0 := HV7.out.box.c0
              have y1 := HV7.out.box.c1
              have y2 := HV7.out.box.c2
              have y3 := HV7.out.box.c3
              have y4 := HV7.out.box.c4
              have HRR := Lib.hid (((grown_cell wr w.heap.size 2 (.slice none 0 0)).block (w.heap.size + 1) (heap_lt HRR.out) (by simp)).trans HRR.out)
              have HB7 := Lib.hid (HB3.out.setCell (p := ⟨w.heap.size, 2, none⟩) (Nat.le_refl _) (.slice none 0 0))
              go_wp2_with (refine wpList_store_row rfl 25 (.tmp 2) (.tmp 42) rfl (w.heap.size + 1) #[.int .u32 N, .slice A3 n3 c3, .slice none 0 0, .bool false, .int .i64 (fu - 1)] rfl rfl 25 zAt HRR.out (by kernel_rfl) rfl (dev_one _ _ _ _ _ _ _ _ _) ?_)
              have hg2 := setRow_heap' (cs := #[.int .u32 N, .slice A3 n3 c3, .slice none 0 0, .bool false, .int .i64 (fu - 1)]) HRR.out
              refine bodyPost_ret (v := .tuple #[.agg #[.int .u32 N, .slice A3 n3 c3, .slice none 0 0, .bool false, .int .i64 (fu - 1)], .int .i64 0]) (results_row2 rfl _ _ (w.heap.size + 1) 25 #[.int .u32 N, .slice A3 n3 c3, .slice none 0 0, .bool false, .int .i64 (fu - 1)] (0, 0) _ rfl hg2 Tryd.underlying25 rfl (by kernel_rfl) _ rfl) rfl ?_
              exact ⟨_, rfl, HV7.out.answer HRR.out _, below_setRow HB7.out (Nat.le_succ _) _⟩
        · have q1 : decide (0 < fu) = false := decide_eq_false h1
          rw [show burnF fu = fu by unfold burnF; rw [if_neg h1]]
          go_enter Tryd.func17, Tryd.ntmps17
          go_wp2_with fail
          generalize (w.alloc _).alloc _ = W0 at *
          go_at_call 23
          refine (refCheck_any N D W A A' n c m c' false fu (by omega) (by omega) W0 HV0.out.one HV0.out.two).mono ?_
          rw [HCH.out]
          rintro e w1 ⟨rfl, hb1⟩
          have HB := Lib.hid (HS.out.trans (hb1.mono HS.out.size))
          have HV1 := Lib.hid (HV0.out.below hb1)
          have HR1 := Lib.hid (below_row HR2.out hb1 (heap_lt HR2.out))
          have a0 := HV1.out.box.c0
          have a1 := HV1.out.box.c1
          have a2 := HV1.out.box.c2
          have a3 := HV1.out.box.c3
          have a4 := HV1.out.box.c4
          clear hb1
          go_wp2_with fail
          go_at_call 13
          refine (refCopy_any N D W A A' n c m c' false fu (by omega) (by omega) w1 HV1.out.one HV1.out.two).mono ?_
          rintro e w2 ⟨v1, v2, rfl, hT, hb2⟩
          obtain ⟨A1, n1, c1, rfl, hs1⟩ := hT.one.sl
          obtain ⟨A2, n2, c2, rfl, hs2⟩ := hT.two.sl
          have HT := Lib.hid hT
          have hn1 : n1 ≤ 65536 := by have h1 := hs1.1; have h2 : n = D.length := HV1.out.one.1; omega
          have hn2 : n2 ≤ 16384 := by have h1 := hs2.1; have h2 : m = W.length := HV1.out.two.1; omega
          have HV2 := Lib.hid (HV1.out.below hb2)
          have HR2b := Lib.hid (below_row HR1.out hb2 (heap_lt HR1.out))
          have HB2 := Lib.hid (HB.out.trans (hb2.mono HB.out.size))
          have HP := Lib.hid (show DV (w2.setRow w.heap.size (devC N (.slice A1 n1 c1) (.slice A2 n2 c2) false fu)) w.heap.size A1 n1 c1 A2 n2 c2 ⟨N, D, W, false, fu⟩ from HV2.out.put (y := ⟨N, D, W, false, fu⟩) hs1 hs2 (by omega) (by omega) f1 f2)
          have HR3 := Lib.hid (((grown_setRow w2 w.heap.size (devC N (.slice A1 n1 c1) (.slice A2 n2 c2) false fu)).block (w.heap.size + 1) (heap_lt HR2b.out) (by simp)).trans HR2b.out)
          have HB3 := Lib.hid (below_setRow HB2.out (Nat.le_refl w.heap.size) (devC N (.slice A1 n1 c1) (.slice A2 n2 c2) false fu))
          have O2 := Lib.hid (HT.out.two.farRow (HV1.out.lt) (devC N (.slice A1 n1 c1) (.slice A2 n2 c2) false fu))
          have HW1 := Lib.hid HV1.out.lt
          have HW1b := Lib.hid (heap_lt HR1.out)
          clear hs1 hs2 hT hb2 a0 a1 a2 a3 a4
          go_wp2_with (first | fail | (refine wpList_store_row rfl 25 (.tmp 1) (.tmp 11) rfl w.heap.size #[.int .u32 N, .slice A1 n1 c1, .slice A2 n2 c2, .bool false, .int .i64 fu] rfl rfl 25 _ HV2.out.row (by kernel_rfl) rfl (dev_one _ _ _ _ _ _ _ _ _) ?_; change wpList _ _ _ _ _ (w2.setRow w.heap.size (devC N (.slice A1 n1 c1) (.slice A2 n2 c2) false fu)); generalize w2.setRow w.heap.size (devC N (.slice A1 n1 c1) (.slice A2 n2 c2) false fu) = W3 at *; have b0 := HP.out.box.c0; have b1 := HP.out.box.c1; have b2 := HP.out.box.c2; have b3 := HP.out.box.c3; have b4 := HP.out.box.c4; have HRR := Lib.hid HR3.out))
          clear b0 b1 b2 b3 b4
          go_loopw [31] (fun v wr => ∃ (i : Nat) (A3 : Option Addr) (n3 c3 : Nat), i ≤ n2 ∧ v = .int .i64 i ∧ Hid (DV wr w.heap.size A3 n3 c3 A2 n2 c2 ⟨N, app D (W.take i), W, false, fu⟩) ∧ Hid (wr.heap[w.heap.size + 1]? = some (.cells zAt 25 (0, 0))) ∧ Hid (Below w.heap.size w wr)) (fun v _ => n2 - (intOf v).toNat)
          case atStart => exact ⟨0, A1, n1, c1, Nat.zero_le _, by go_num, HP.out, HRR.out, HB3.out⟩
          case round =>
            clear HP HRR HB3
            obtain ⟨i, A3, n3, c3, hi, rfl, hp, hrr, hbel⟩ := hrel
            have HP := Lib.hid (Hid.out hp)
            have HRR := Lib.hid (Hid.out hrr)
            have HB3 := Lib.hid (Hid.out hbel)
            have HNW := Lib.hid (show n2 = W.length from HP.out.two.1)
            clear hp hrr hbel
            by_cases hlt : i < n2
            · obtain ⟨q, hq⟩ : ∃ q, W[i]? = some q := ⟨_, List.getElem?_eq_getElem (by rw [← HNW.out]; exact hlt)⟩
              obtain ⟨-, -, -, BB, hBB, hLL⟩ := HP.out.two
              obtain ⟨b, z, hAe, hbb, hr⟩ := hLL i q hq
              have hbs : b < wr.heap.size := Nat.lt_of_lt_of_le hbb hBB
              have hc0 : wr.cell? ⟨b, z + i * 2, none⟩ = some (.int .u32 q.n) := hr 0 _ rfl
              have hc1 : wr.cell? ⟨b, z + i * 2 + 1, none⟩ = some (.string q.d) := hr 1 _ rfl
              subst hAe
              clear hr hLL
              have hal : Below wr.heap.size wr (wr.alloc (.cells #[.int .u32 q.n, .string q.d] 41)) := (Below.refl _ _).alloc (Nat.le_refl _) _
              have HPa := Lib.hid (HP.out.below hal)
              have HRa := Lib.hid (below_row HRR.out hal (heap_lt HRR.out))
              have HBa := Lib.hid (HB3.out.trans (hal.mono HB3.out.size))
              have hd0 : (wr.alloc (.cells #[.int .u32 q.n, .string q.d] 41)).cell? ⟨wr.heap.size, 0, none⟩ = some (.int .u32 q.n) := by simp
              have hd1 : (wr.alloc (.cells #[.int .u32 q.n, .string q.d] 41)).cell? ⟨wr.heap.size, 1, none⟩ = some (.string q.d) := by simp
              have p1 := HPa.out.box.c1
              have HST := Lib.hid (show don q (app D (W.take i)) = app D (W.take (i + 1)) by rw [take_snocB hq, app_snoc])
              have HLE := Lib.hid (show (app D (W.take i)).length ≤ 81920 by have h1 := app_len D (W.take i); have h2 : (W.take i).length ≤ W.length := by rw [List.length_take]; omega
                                                                             have := HDL.out; have := HWL.out; omega)
              have HLE2 := Lib.hid (show (app D (W.take (i + 1))).length ≤ 81920 by have h1 := app_len D (W.take (i + 1)); have h2 : (W.take (i + 1)).length ≤ W.length := by rw [List.length_take]; omega
                                                                                    have := HDL.out; have := HWL.out; omega)
              clear hq
              go_wp2_with fail
              go_at_call 38
              obtain ⟨m1, m2, m3, B1, m4, m5⟩ := HPa.out.one
              refine (refPut_any _ q A3 n3 c3 B1 m1 (by have h := HLE.out; dsimp only at m1; omega) (wr.alloc (.cells #[.int .u32 q.n, .string q.d] 41)) m4 m5).mono ?_
              clear m1 m2 m3 m4 m5
              rintro e w6 ⟨v6, rfl, hM6⟩
              obtain ⟨A6, n6, c6, rfl, hs6⟩ := SlB.of_mk hM6
              have HV6 := Lib.hid (HPa.out.below hM6.2)
              have HR6 := Lib.hid (below_row HRa.out hM6.2 (heap_lt HRa.out))
              have HB6 := Lib.hid (HBa.out.trans (hM6.2.mono HBa.out.size))
              have HS6 := Lib.hid (show SlB w6 A6 n6 c6 (app D (W.take (i + 1))) from HST.out ▸ hs6)
              clear hM6 hs6 hc0 hc1 hd0 hd1 p1 hal
              have d2 := HV6.out.box.c1
              have g2 := HV6.out.box.fr 1
              have HV7 := Lib.hid (HV6.out.blocks HS6.out (by have h := HS6.out.1; have := HLE2.out; omega))
              have HR7 := Lib.hid (((grown_cell w6 w.heap.size 1 (.slice A6 n6 c6)).block (w.heap.size + 1) (heap_lt HR6.out) (by simp)).trans HR6.out)
              have HB7 := Lib.hid (HB6.out.setCell (p := ⟨w.heap.size, 1, none⟩) (Nat.le_refl _) (.slice A6 n6 c6))
              go_wp2
              exact ⟨⟨i + 1, A6, n6, c6, by omega, by go_num, HV7.out, HR7.out, HB7.out⟩, by simp [intOf] <;> omega⟩
            · obtain rfl : i = n2 := by omega
              have HP9 := Lib.hid (show DV wr w.heap.size A3 n3 c3 A2 i c2 ⟨N, app D W, W, false, fu⟩ from by have h := HP.out; rwa [List.take_of_length_le (by rw [← HNW.out]; exact Nat.le_refl _)] at h)
              have p2 := HP9.out.box.c2
              have g2 := HP9.out.box.fr 2
              have HV7 := Lib.hid (HP9.out.nowait)
              have y0 := HV7.out.box.c0
              have y1 := HV7.out.box.c1
              have y2 := HV7.out.box.c2
              have y3 := HV7.out.box.c3
              have y4 := HV7.out.box.c4
              have HRR := Lib.hid (((grown_cell wr w.heap.size 2 (.slice none 0 0)).block (w.heap.size + 1) (heap_lt HRR.out) (by simp)).trans HRR.out)
              have HB7 := Lib.hid (HB3.out.setCell (p := ⟨w.heap.size, 2, none⟩) (Nat.le_refl _) (.slice none 0 0))
              go_wp2_with (refine wpList_store_row rfl 25 (.tmp 2) (.tmp 42) rfl (w.heap.size + 1) #[.int .u32 N, .slice A3 n3 c3, .slice none 0 0, .bool false, .int .i64 fu] rfl rfl 25 zAt HRR.out (by kernel_rfl) rfl (dev_one _ _ _ _ _ _ _ _ _) ?_)
              have hg2 := setRow_heap' (cs := #[.int .u32 N, .slice A3 n3 c3, .slice none 0 0, .bool false, .int .i64 fu]) HRR.out
              refine bodyPost_ret (v := .tuple #[.agg #[.int .u32 N, .slice A3 n3 c3, .slice none 0 0, .bool false, .int .i64 fu], .int .i64 0]) (results_row2 rfl _ _ (w.heap.size + 1) 25 #[.int .u32 N, .slice A3 n3 c3, .slice none 0 0, .bool false, .int .i64 fu] (0, 0) _ rfl hg2 Tryd.underlying25 rfl (by kernel_rfl) _ rfl) rfl ?_
              exact ⟨_, rfl, HV7.out.answer HRR.out _, below_setRow HB7.out (Nat.le_succ _) _⟩
    · have HE := Lib.hid (show flO ⟨N, D, W, true, fu⟩ = 17 by unfold flO; rw [hr]; rfl)
      have HX := Lib.hid (show flX ⟨N, D, W, true, fu⟩ = ⟨N, D, W, true, fu⟩ by unfold flX; rw [hr]; rfl)
      rw [HE.out, HX.out]
      clear hr HE HX
      go_enter Tryd.func17, Tryd.ntmps17
      go_wp2_with fail
      generalize (w.alloc _).alloc _ = W0 at *
      go_at_call 23
      refine (refCheck_any N D W A A' n c m c' true fu (by omega) (by omega) W0 HV0.out.one HV0.out.two).mono ?_
      rw [HCH.out]
      rintro e w1 ⟨rfl, hb1⟩
      have HB := Lib.hid (HS.out.trans (hb1.mono HS.out.size))
      have HV1 := Lib.hid (HV0.out.below hb1)
      have HR1 := Lib.hid (below_row HR2.out hb1 (heap_lt HR2.out))
      have a0 := HV1.out.box.c0
      have a1 := HV1.out.box.c1
      have a2 := HV1.out.box.c2
      have a3 := HV1.out.box.c3
      have a4 := HV1.out.box.c4
      clear hb1
      go_wp2_with fail
      go_at_call 13
      refine (refCopy_any N D W A A' n c m c' true fu (by omega) (by omega) w1 HV1.out.one HV1.out.two).mono ?_
      rintro e w2 ⟨v1, v2, rfl, hT, hb2⟩
      obtain ⟨A1, n1, c1, rfl, hs1⟩ := hT.one.sl
      obtain ⟨A2, n2, c2, rfl, hs2⟩ := hT.two.sl
      have HT := Lib.hid hT
      have hn1 : n1 ≤ 65536 := by have h1 := hs1.1; have h2 : n = D.length := HV1.out.one.1; omega
      have hn2 : n2 ≤ 16384 := by have h1 := hs2.1; have h2 : m = W.length := HV1.out.two.1; omega
      have HV2 := Lib.hid (HV1.out.below hb2)
      have HR2b := Lib.hid (below_row HR1.out hb2 (heap_lt HR1.out))
      have HB2 := Lib.hid (HB.out.trans (hb2.mono HB.out.size))
      have HP := Lib.hid (show DV (w2.setRow w.heap.size (devC N (.slice A1 n1 c1) (.slice A2 n2 c2) true fu)) w.heap.size A1 n1 c1 A2 n2 c2 ⟨N, D, W, true, fu⟩ from HV2.out.put (y := ⟨N, D, W, true, fu⟩) hs1 hs2 (by omega) (by omega) f1 f2)
      have HR3 := Lib.hid (((grown_setRow w2 w.heap.size (devC N (.slice A1 n1 c1) (.slice A2 n2 c2) true fu)).block (w.heap.size + 1) (heap_lt HR2b.out) (by simp)).trans HR2b.out)
      have HB3 := Lib.hid (below_setRow HB2.out (Nat.le_refl w.heap.size) (devC N (.slice A1 n1 c1) (.slice A2 n2 c2) true fu))
      have O2 := Lib.hid (HT.out.two.farRow (HV1.out.lt) (devC N (.slice A1 n1 c1) (.slice A2 n2 c2) true fu))
      have HW1 := Lib.hid HV1.out.lt
      have HW1b := Lib.hid (heap_lt HR1.out)
      clear hs1 hs2 hT hb2 a0 a1 a2 a3 a4
      go_wp2_with (first | (refine wpList_store_row rfl 25 (.tmp 2) (.tmp 20) rfl (w.heap.size + 1) #[.int .u32 N, .slice A1 n1 c1, .slice A2 n2 c2, .bool true, .int .i64 fu] rfl rfl 25 zAt HRR.out (by kernel_rfl) rfl (dev_one _ _ _ _ _ _ _ _ _) ?_) | (refine wpList_store_row rfl 25 (.tmp 1) (.tmp 11) rfl w.heap.size #[.int .u32 N, .slice A1 n1 c1, .slice A2 n2 c2, .bool true, .int .i64 fu] rfl rfl 25 _ HV2.out.row (by kernel_rfl) rfl (dev_one _ _ _ _ _ _ _ _ _) ?_; change wpList _ _ _ _ _ (w2.setRow w.heap.size (devC N (.slice A1 n1 c1) (.slice A2 n2 c2) true fu)); generalize w2.setRow w.heap.size (devC N (.slice A1 n1 c1) (.slice A2 n2 c2) true fu) = W3 at *; have b0 := HP.out.box.c0; have b1 := HP.out.box.c1; have b2 := HP.out.box.c2; have b3 := HP.out.box.c3; have b4 := HP.out.box.c4; have g3 := HP.out.box.fr 3; have HV7 := Lib.hid (HP.out.down true); have HRR := Lib.hid (((grown_cell W3 w.heap.size 3 (.bool true)).block (w.heap.size + 1) (heap_lt HR3.out) (by simp)).trans HR3.out); have HB7 := Lib.hid (HB3.out.setCell (p := ⟨w.heap.size, 3, none⟩) (Nat.le_refl _) (.bool true))))
      have hg2 := setRow_heap' (cs := #[.int .u32 N, .slice A1 n1 c1, .slice A2 n2 c2, .bool true, .int .i64 fu]) HRR.out
      refine bodyPost_ret (v := .tuple #[.agg #[.int .u32 N, .slice A1 n1 c1, .slice A2 n2 c2, .bool true, .int .i64 fu], .int .i64 17]) (results_row2 rfl _ _ (w.heap.size + 1) 25 #[.int .u32 N, .slice A1 n1 c1, .slice A2 n2 c2, .bool true, .int .i64 fu] (0, 0) _ rfl hg2 Tryd.underlying25 rfl (by kernel_rfl) _ rfl) rfl ?_
      exact ⟨_, rfl, HV7.out.answer HRR.out _, below_setRow HB7.out (Nat.le_succ _) _⟩
end
section
set_option linter.unusedVariables false
set_option linter.unusedSimpArgs false
open Go.ChangeShapes Go.WideShapes Go.ChangeAt Go.RowKit
open Ar Rg St
open BigFrame
theorem Own.slOf {B : Nat} {w : World} {A : Option Addr} {n c : Nat} {D : List Bk} (h : Own B w (.slice A n c) D) : SlB w A n c D := by
  obtain ⟨A', n', c', e, hs⟩ := h.sl
  cases e
  exact hs
theorem DV.waits {w : World} {b N n c n6 c6 : Nat} {A A6 : Option Addr} {v2 : Value} {D W6 : List Bk} {dn : Bool} {fu : Int} {A2 : Option Addr} {n2 c2 : Nat} (hr : w.heap[b]? = some (.cells (devC N (.slice A n c) (.slice A2 n2 c2) dn fu) 25 (0, 0))) (h1 : SlB w A n c D) (h2 : SlB w A6 n6 c6 W6) (ln : n ≤ 281474976710656) (lm : n6 ≤ 281474976710656) (lo : -9223372036854775808 ≤ fu) (hi : fu ≤ 9223372036854775807) :
    DV (w.setCell ⟨b, 2, none⟩ (.slice A6 n6 c6)) b A n c A6 n6 c6 ⟨N, D, W6, dn, fu⟩ :=
  ⟨row_set2 hr _, h1.off_row hr (grown_cell _ _ _ _), h2.off_row hr (grown_cell _ _ _ _), ln, lm, lo, hi⟩
set_option maxRecDepth 100000 in
set_option maxHeartbeats 4000000 in
theorem refWrite_any (x : De) (num : Nat) (s : ByteArray) (v : Value) (w : World) (hv : DevAt w v x) (hs63 : s.size ≤ 9223372036854775807) :
    Calls Tryd.prog 15 #[v, .int .u32 num, .string s] w fun e w' => ∃ v', e = .returned (.tuple #[v', .int .i64 (wrO x num s)]) ∧ DevAt w' v' (wrX x num s) ∧ Below w.heap.size w w' := by
  obtain ⟨A, n, c, A', m, c', rfl, hD, hW, hn, hm, f1, f2⟩ := hv
  obtain ⟨N, D, W, dn, fu⟩ := x
  dsimp only at hD hW f1 f2 ⊢
  obtain ⟨R1, R2, S0, Z0⟩ := two_new w (devC N (.slice A n c) (.slice A' m c') dn fu) zAt 25 25
  have HR2 := Lib.hid R2
  have HV0 := Lib.hid (show DV ((w.alloc (.cells (devC N (.slice A n c) (.slice A' m c') dn fu) 25)).alloc (.cells zAt 25)) w.heap.size A n c A' m c' ⟨N, D, W, dn, fu⟩ from ⟨R1, hD.below S0, hW.below S0, hn, hm, f1, f2⟩)
  have HS := Lib.hid S0
  have hD0 := hD.1
  have hW0 := hW.1
  clear hD hW S0 R1 R2 Z0
  unfold devV
  cases hr : De.rt ⟨N, D, W, dn, fu⟩
  · have HE := Lib.hid (show wrO ⟨N, D, W, dn, fu⟩ num s = 7 by unfold wrO; rw [hr]; rfl)
    have HX := Lib.hid (show wrX ⟨N, D, W, dn, fu⟩ num s = De.zero by unfold wrX; rw [hr]; rfl)
    have HCH := Lib.hid (show chO ⟨N, D, W, dn, fu⟩ = 7 by unfold chO; rw [hr]; rfl)
    rw [HE.out, HX.out]
    clear hr hD0 hW0 HE HX
    go_enter Tryd.func15, Tryd.ntmps15
    go_wp2_with fail
    generalize (w.alloc _).alloc _ = W0 at *
    go_at_call 23
    refine (refCheck_any N D W A A' n c m c' dn fu (by omega) (by omega) W0 HV0.out.one HV0.out.two).mono ?_
    rw [HCH.out]
    rintro e w1 ⟨rfl, hb1⟩
    have HB := Lib.hid (HS.out.trans (hb1.mono HS.out.size))
    have HV1 := Lib.hid (HV0.out.below hb1)
    have HR1 := Lib.hid (below_row HR2.out hb1 (heap_lt HR2.out))
    have a0 := HV1.out.box.c0
    have a1 := HV1.out.box.c1
    have a2 := HV1.out.box.c2
    have a3 := HV1.out.box.c3
    have a4 := HV1.out.box.c4
    clear hb1
    go_wp2_with (refine wpList_store_row rfl 25 (.tmp 6) (.tmp 11) rfl (w.heap.size + 1) #[.int .u32 0, .slice none 0 0, .slice none 0 0, .bool false, .int .i64 0] rfl rfl 25 zAt HR1.out (by kernel_rfl) rfl (dev_one _ _ _ _ _ _ _ _ _) ?_)
    have hg2 := setRow_heap' (cs := #[.int .u32 0, .slice none 0 0, .slice none 0 0, .bool false, .int .i64 0]) HR1.out
    refine bodyPost_ret (v := .tuple #[.agg #[.int .u32 0, .slice none 0 0, .slice none 0 0, .bool false, .int .i64 0], .int .i64 7]) (results_row2 rfl _ _ (w.heap.size + 1) 25 #[.int .u32 0, .slice none 0 0, .slice none 0 0, .bool false, .int .i64 0] (0, 0) _ rfl hg2 Tryd.underlying25 rfl (by kernel_rfl) _ rfl) rfl ?_
    exact ⟨_, rfl, DevAt.zero _, below_setRow HB.out (Nat.le_succ _) _⟩
  · have HCH := Lib.hid (show chO ⟨N, D, W, dn, fu⟩ = 0 from chO_zero.2 hr)
    have hlen := rt_len hr
    dsimp only at hlen
    have hnl : n ≤ 65536 := by omega
    have hml : m ≤ 16384 := by omega
    have HDL := Lib.hid (show D.length ≤ 65536 from hlen.1)
    have HWL := Lib.hid (show W.length ≤ 16384 from hlen.2)
    have HMW := Lib.hid hW0
    clear hlen hD0 hW0
    cases dn
    · by_cases hN : N ≤ num
      · have g1 : decide (N ≤ num) = true := decide_eq_true hN
        have HY := Lib.hid (show De.why ⟨N, D, W, false, fu⟩ num s = 1 by unfold De.why wrE hadE; rw [if_neg Bool.false_ne_true, if_pos hN]; rfl)
        clear hN
        have HE := Lib.hid (show wrO ⟨N, D, W, false, fu⟩ num s = 1 by unfold wrO; rw [hr, if_pos rfl, HY.out]; rfl)
        have HX := Lib.hid (show wrX ⟨N, D, W, false, fu⟩ num s = ⟨N, D, W, false, fu⟩ by unfold wrX; rw [hr, if_pos rfl, HY.out]; rfl)
        rw [HE.out, HX.out]
        clear hr HE HX
        go_enter Tryd.func15, Tryd.ntmps15
        go_wp2_with fail
        generalize (w.alloc _).alloc _ = W0 at *
        go_at_call 23
        refine (refCheck_any N D W A A' n c m c' false fu (by omega) (by omega) W0 HV0.out.one HV0.out.two).mono ?_
        rw [HCH.out]
        rintro e w1 ⟨rfl, hb1⟩
        have HB := Lib.hid (HS.out.trans (hb1.mono HS.out.size))
        have HV1 := Lib.hid (HV0.out.below hb1)
        have HR1 := Lib.hid (below_row HR2.out hb1 (heap_lt HR2.out))
        have a0 := HV1.out.box.c0
        have a1 := HV1.out.box.c1
        have a2 := HV1.out.box.c2
        have a3 := HV1.out.box.c3
        have a4 := HV1.out.box.c4
        clear hb1
        go_wp2_with fail
        go_at_call 13
        refine (refCopy_any N D W A A' n c m c' false fu (by omega) (by omega) w1 HV1.out.one HV1.out.two).mono ?_
        rintro e w2 ⟨v1, v2, rfl, hT, hb2⟩
        obtain ⟨A1, n1, c1, rfl, hs1⟩ := hT.one.sl
        obtain ⟨A2, n2, c2, rfl, hs2⟩ := hT.two.sl
        have HT := Lib.hid hT
        have hn1 : n1 ≤ 65536 := by have h1 := hs1.1; have h2 : n = D.length := HV1.out.one.1; omega
        have hn2 : n2 ≤ 16384 := by have h1 := hs2.1; have h2 : m = W.length := HV1.out.two.1; omega
        have HV2 := Lib.hid (HV1.out.below hb2)
        have HR2b := Lib.hid (below_row HR1.out hb2 (heap_lt HR1.out))
        have HB2 := Lib.hid (HB.out.trans (hb2.mono HB.out.size))
        have HP := Lib.hid (show DV (w2.setRow w.heap.size (devC N (.slice A1 n1 c1) (.slice A2 n2 c2) false fu)) w.heap.size A1 n1 c1 A2 n2 c2 ⟨N, D, W, false, fu⟩ from HV2.out.put (y := ⟨N, D, W, false, fu⟩) hs1 hs2 (by omega) (by omega) f1 f2)
        have HR3 := Lib.hid (((grown_setRow w2 w.heap.size (devC N (.slice A1 n1 c1) (.slice A2 n2 c2) false fu)).block (w.heap.size + 1) (heap_lt HR2b.out) (by simp)).trans HR2b.out)
        have HB3 := Lib.hid (below_setRow HB2.out (Nat.le_refl w.heap.size) (devC N (.slice A1 n1 c1) (.slice A2 n2 c2) false fu))
        have O2 := Lib.hid (HT.out.two.farRow (HV1.out.lt) (devC N (.slice A1 n1 c1) (.slice A2 n2 c2) false fu))
        have HW1 := Lib.hid HV1.out.lt
        have HW1b := Lib.hid (heap_lt HR1.out)
        clear hs1 hs2 hT hb2 a0 a1 a2 a3 a4
        go_wp2_with (first | (refine wpList_store_row rfl 25 (.tmp 6) (.tmp 23) rfl (w.heap.size + 1) #[.int .u32 N, .slice A1 n1 c1, .slice A2 n2 c2, .bool false, .int .i64 fu] rfl rfl 25 zAt HRR.out (by kernel_rfl) rfl (dev_one _ _ _ _ _ _ _ _ _) ?_) | (refine wpList_store_row rfl 25 (.tmp 3) (.tmp 13) rfl w.heap.size #[.int .u32 N, .slice A1 n1 c1, .slice A2 n2 c2, .bool false, .int .i64 fu] rfl rfl 25 _ HV2.out.row (by kernel_rfl) rfl (dev_one _ _ _ _ _ _ _ _ _) ?_; change wpList _ _ _ _ _ (w2.setRow w.heap.size (devC N (.slice A1 n1 c1) (.slice A2 n2 c2) false fu)); generalize w2.setRow w.heap.size (devC N (.slice A1 n1 c1) (.slice A2 n2 c2) false fu) = W3 at *; have b0 := HP.out.box.c0; have b1 := HP.out.box.c1; have b2 := HP.out.box.c2; have b3 := HP.out.box.c3; have b4 := HP.out.box.c4; have HRR := Lib.hid HR3.out))
        have hg2 := setRow_heap' (cs := #[.int .u32 N, .slice A1 n1 c1, .slice A2 n2 c2, .bool false, .int .i64 fu]) HRR.out
        refine bodyPost_ret (v := .tuple #[.agg #[.int .u32 N, .slice A1 n1 c1, .slice A2 n2 c2, .bool false, .int .i64 fu], .int .i64 1]) (results_row2 rfl _ _ (w.heap.size + 1) 25 #[.int .u32 N, .slice A1 n1 c1, .slice A2 n2 c2, .bool false, .int .i64 fu] (0, 0) _ rfl hg2 Tryd.underlying25 rfl (by kernel_rfl) _ rfl) rfl ?_
        exact ⟨_, rfl, HP.out.answer HRR.out _, below_setRow HB3.out (Nat.le_succ _) _⟩
      have g1 : decide (N ≤ num) = false := decide_eq_false hN
      by_cases hL : 512 < s.size
      · have g2 : decide ((512 : Int) < (s.size : Int)) = true := decide_eq_true (by omega)
        have HY := Lib.hid (show De.why ⟨N, D, W, false, fu⟩ num s = 2 by unfold De.why wrE hadE; rw [if_neg Bool.false_ne_true, if_neg hN, if_pos hL]; rfl)
        clear hN hL
        have HE := Lib.hid (show wrO ⟨N, D, W, false, fu⟩ num s = 2 by unfold wrO; rw [hr, if_pos rfl, HY.out]; rfl)
        have HX := Lib.hid (show wrX ⟨N, D, W, false, fu⟩ num s = ⟨N, D, W, false, fu⟩ by unfold wrX; rw [hr, if_pos rfl, HY.out]; rfl)
        rw [HE.out, HX.out]
        clear hr HE HX
        go_enter Tryd.func15, Tryd.ntmps15
        go_wp2_with fail
        generalize (w.alloc _).alloc _ = W0 at *
        go_at_call 23
        refine (refCheck_any N D W A A' n c m c' false fu (by omega) (by omega) W0 HV0.out.one HV0.out.two).mono ?_
        rw [HCH.out]
        rintro e w1 ⟨rfl, hb1⟩
        have HB := Lib.hid (HS.out.trans (hb1.mono HS.out.size))
        have HV1 := Lib.hid (HV0.out.below hb1)
        have HR1 := Lib.hid (below_row HR2.out hb1 (heap_lt HR2.out))
        have a0 := HV1.out.box.c0
        have a1 := HV1.out.box.c1
        have a2 := HV1.out.box.c2
        have a3 := HV1.out.box.c3
        have a4 := HV1.out.box.c4
        clear hb1
        go_wp2_with fail
        go_at_call 13
        refine (refCopy_any N D W A A' n c m c' false fu (by omega) (by omega) w1 HV1.out.one HV1.out.two).mono ?_
        rintro e w2 ⟨v1, v2, rfl, hT, hb2⟩
        obtain ⟨A1, n1, c1, rfl, hs1⟩ := hT.one.sl
        obtain ⟨A2, n2, c2, rfl, hs2⟩ := hT.two.sl
        have HT := Lib.hid hT
        have hn1 : n1 ≤ 65536 := by have h1 := hs1.1; have h2 : n = D.length := HV1.out.one.1; omega
        have hn2 : n2 ≤ 16384 := by have h1 := hs2.1; have h2 : m = W.length := HV1.out.two.1; omega
        have HV2 := Lib.hid (HV1.out.below hb2)
        have HR2b := Lib.hid (below_row HR1.out hb2 (heap_lt HR1.out))
        have HB2 := Lib.hid (HB.out.trans (hb2.mono HB.out.size))
        have HP := Lib.hid (show DV (w2.setRow w.heap.size (devC N (.slice A1 n1 c1) (.slice A2 n2 c2) false fu)) w.heap.size A1 n1 c1 A2 n2 c2 ⟨N, D, W, false, fu⟩ from HV2.out.put (y := ⟨N, D, W, false, fu⟩) hs1 hs2 (by omega) (by omega) f1 f2)
        have HR3 := Lib.hid (((grown_setRow w2 w.heap.size (devC N (.slice A1 n1 c1) (.slice A2 n2 c2) false fu)).block (w.heap.size + 1) (heap_lt HR2b.out) (by simp)).trans HR2b.out)
        have HB3 := Lib.hid (below_setRow HB2.out (Nat.le_refl w.heap.size) (devC N (.slice A1 n1 c1) (.slice A2 n2 c2) false fu))
        have O2 := Lib.hid (HT.out.two.farRow (HV1.out.lt) (devC N (.slice A1 n1 c1) (.slice A2 n2 c2) false fu))
        have HW1 := Lib.hid HV1.out.lt
        have HW1b := Lib.hid (heap_lt HR1.out)
        clear hs1 hs2 hT hb2 a0 a1 a2 a3 a4
        go_wp2_with (first | (refine wpList_store_row rfl 25 (.tmp 6) (.tmp 28) rfl (w.heap.size + 1) #[.int .u32 N, .slice A1 n1 c1, .slice A2 n2 c2, .bool false, .int .i64 fu] rfl rfl 25 zAt HRR.out (by kernel_rfl) rfl (dev_one _ _ _ _ _ _ _ _ _) ?_) | (refine wpList_store_row rfl 25 (.tmp 3) (.tmp 13) rfl w.heap.size #[.int .u32 N, .slice A1 n1 c1, .slice A2 n2 c2, .bool false, .int .i64 fu] rfl rfl 25 _ HV2.out.row (by kernel_rfl) rfl (dev_one _ _ _ _ _ _ _ _ _) ?_; change wpList _ _ _ _ _ (w2.setRow w.heap.size (devC N (.slice A1 n1 c1) (.slice A2 n2 c2) false fu)); generalize w2.setRow w.heap.size (devC N (.slice A1 n1 c1) (.slice A2 n2 c2) false fu) = W3 at *; have b0 := HP.out.box.c0; have b1 := HP.out.box.c1; have b2 := HP.out.box.c2; have b3 := HP.out.box.c3; have b4 := HP.out.box.c4; have HRR := Lib.hid HR3.out))
        have hg2 := setRow_heap' (cs := #[.int .u32 N, .slice A1 n1 c1, .slice A2 n2 c2, .bool false, .int .i64 fu]) HRR.out
        refine bodyPost_ret (v := .tuple #[.agg #[.int .u32 N, .slice A1 n1 c1, .slice A2 n2 c2, .bool false, .int .i64 fu], .int .i64 2]) (results_row2 rfl _ _ (w.heap.size + 1) 25 #[.int .u32 N, .slice A1 n1 c1, .slice A2 n2 c2, .bool false, .int .i64 fu] (0, 0) _ rfl hg2 Tryd.underlying25 rfl (by kernel_rfl) _ rfl) rfl ?_
        exact ⟨_, rfl, HP.out.answer HRR.out _, below_setRow HB3.out (Nat.le_succ _) _⟩
      have g2 : decide ((512 : Int) < (s.size : Int)) = false := decide_eq_false (by omega)
      have HH := Lib.hid (show hadE N num s = 0 by unfold hadE; rw [if_neg hN, if_neg hL])
      by_cases hM : m = 16384
      · have HY := Lib.hid (show De.why ⟨N, D, W, false, fu⟩ num s = 8 by unfold De.why wrE; rw [if_neg Bool.false_ne_true, HH.out]; simp only [ne_eq, not_true_eq_false, if_false]; exact if_pos (by rw [← HMW.out]; exact hM))
        have HMM := Lib.hid hM
        clear hN hL hM
        have HE := Lib.hid (show wrO ⟨N, D, W, false, fu⟩ num s = 8 by unfold wrO; rw [hr, if_pos rfl, HY.out]; rfl)
        have HX := Lib.hid (show wrX ⟨N, D, W, false, fu⟩ num s = ⟨N, D, W, false, fu⟩ by unfold wrX; rw [hr, if_pos rfl, HY.out]; rfl)
        rw [HE.out, HX.out]
        clear hr HE HX
        go_enter Tryd.func15, Tryd.ntmps15
        go_wp2_with fail
        generalize (w.alloc _).alloc _ = W0 at *
        go_at_call 23
        refine (refCheck_any N D W A A' n c m c' false fu (by omega) (by omega) W0 HV0.out.one HV0.out.two).mono ?_
        rw [HCH.out]
        rintro e w1 ⟨rfl, hb1⟩
        have HB := Lib.hid (HS.out.trans (hb1.mono HS.out.size))
        have HV1 := Lib.hid (HV0.out.below hb1)
        have HR1 := Lib.hid (below_row HR2.out hb1 (heap_lt HR2.out))
        have a0 := HV1.out.box.c0
        have a1 := HV1.out.box.c1
        have a2 := HV1.out.box.c2
        have a3 := HV1.out.box.c3
        have a4 := HV1.out.box.c4
        clear hb1
        go_wp2_with fail
        go_at_call 13
        refine (refCopy_any N D W A A' n c m c' false fu (by omega) (by omega) w1 HV1.out.one HV1.out.two).mono ?_
        rintro e w2 ⟨v1, v2, rfl, hT, hb2⟩
        obtain ⟨A1, n1, c1, rfl, hs1⟩ := hT.one.sl
        obtain ⟨A2, n2, c2, rfl, hs2⟩ := hT.two.sl
        have HT := Lib.hid hT
        have hn1 : n1 ≤ 65536 := by have h1 := hs1.1; have h2 : n = D.length := HV1.out.one.1; omega
        have hn2 : n2 ≤ 16384 := by have h1 := hs2.1; have h2 : m = W.length := HV1.out.two.1; omega
        have HV2 := Lib.hid (HV1.out.below hb2)
        have HR2b := Lib.hid (below_row HR1.out hb2 (heap_lt HR1.out))
        have HB2 := Lib.hid (HB.out.trans (hb2.mono HB.out.size))
        have HP := Lib.hid (show DV (w2.setRow w.heap.size (devC N (.slice A1 n1 c1) (.slice A2 n2 c2) false fu)) w.heap.size A1 n1 c1 A2 n2 c2 ⟨N, D, W, false, fu⟩ from HV2.out.put (y := ⟨N, D, W, false, fu⟩) hs1 hs2 (by omega) (by omega) f1 f2)
        have HR3 := Lib.hid (((grown_setRow w2 w.heap.size (devC N (.slice A1 n1 c1) (.slice A2 n2 c2) false fu)).block (w.heap.size + 1) (heap_lt HR2b.out) (by simp)).trans HR2b.out)
        have HB3 := Lib.hid (below_setRow HB2.out (Nat.le_refl w.heap.size) (devC N (.slice A1 n1 c1) (.slice A2 n2 c2) false fu))
        have O2 := Lib.hid (HT.out.two.farRow (HV1.out.lt) (devC N (.slice A1 n1 c1) (.slice A2 n2 c2) false fu))
        have HW1 := Lib.hid HV1.out.lt
        have HW1b := Lib.hid (heap_lt HR1.out)
        have g3 : decide ((16384 : Int) ≤ (n2 : Int)) = true := decide_eq_true (by have h1 := hs2.1; have h2 := HMW.out; have h3 := HMM.out; omega)
        clear hs1 hs2 hT hb2 a0 a1 a2 a3 a4
        go_wp2_with (first | (refine wpList_store_row rfl 25 (.tmp 6) (.tmp 34) rfl (w.heap.size + 1) #[.int .u32 N, .slice A1 n1 c1, .slice A2 n2 c2, .bool false, .int .i64 fu] rfl rfl 25 zAt HRR.out (by kernel_rfl) rfl (dev_one _ _ _ _ _ _ _ _ _) ?_) | (refine wpList_store_row rfl 25 (.tmp 3) (.tmp 13) rfl w.heap.size #[.int .u32 N, .slice A1 n1 c1, .slice A2 n2 c2, .bool false, .int .i64 fu] rfl rfl 25 _ HV2.out.row (by kernel_rfl) rfl (dev_one _ _ _ _ _ _ _ _ _) ?_; change wpList _ _ _ _ _ (w2.setRow w.heap.size (devC N (.slice A1 n1 c1) (.slice A2 n2 c2) false fu)); generalize w2.setRow w.heap.size (devC N (.slice A1 n1 c1) (.slice A2 n2 c2) false fu) = W3 at *; have b0 := HP.out.box.c0; have b1 := HP.out.box.c1; have b2 := HP.out.box.c2; have b3 := HP.out.box.c3; have b4 := HP.out.box.c4; have HRR := Lib.hid HR3.out))
        have hg2 := setRow_heap' (cs := #[.int .u32 N, .slice A1 n1 c1, .slice A2 n2 c2, .bool false, .int .i64 fu]) HRR.out
        refine bodyPost_ret (v := .tuple #[.agg #[.int .u32 N, .slice A1 n1 c1, .slice A2 n2 c2, .bool false, .int .i64 fu], .int .i64 8]) (results_row2 rfl _ _ (w.heap.size + 1) 25 #[.int .u32 N, .slice A1 n1 c1, .slice A2 n2 c2, .bool false, .int .i64 fu] (0, 0) _ rfl hg2 Tryd.underlying25 rfl (by kernel_rfl) _ rfl) rfl ?_
        exact ⟨_, rfl, HP.out.answer HRR.out _, below_setRow HB3.out (Nat.le_succ _) _⟩
      have HY := Lib.hid (show De.why ⟨N, D, W, false, fu⟩ num s = 0 by unfold De.why wrE; rw [if_neg Bool.false_ne_true, HH.out]; simp only [ne_eq, not_true_eq_false, if_false]; exact if_neg (by rw [← HMW.out]; exact hM))
      have HX := Lib.hid (show wrX ⟨N, D, W, false, fu⟩ num s = ⟨N, D, W ++ [⟨num, cutB s⟩], burnD false fu, burnF fu⟩ by unfold wrX; rw [hr, if_pos rfl, HY.out]; rfl)
      have HE := Lib.hid (show wrO ⟨N, D, W, false, fu⟩ num s = burnE fu by unfold wrO; rw [hr, if_pos rfl, HY.out]; rfl)
      rw [HE.out, HX.out]
      have HC := Lib.hid (refCut_any s hs63)
      have HM9 := Lib.hid (show W.length < 16384 by have := HWL.out; have := HMW.out; omega)
      clear hr HE HX hN hL hM
      by_cases h0 : fu = 0
      · subst h0
        rw [show burnE 0 = 17 from rfl, show burnD false 0 = true from rfl, show burnF 0 = 0 from rfl]
        go_enter Tryd.func15, Tryd.ntmps15
        go_wp2_with fail
        generalize (w.alloc _).alloc _ = W0 at *
        go_at_call 23
        refine (refCheck_any N D W A A' n c m c' false 0 (by omega) (by omega) W0 HV0.out.one HV0.out.two).mono ?_
        rw [HCH.out]
        rintro e w1 ⟨rfl, hb1⟩
        have HB := Lib.hid (HS.out.trans (hb1.mono HS.out.size))
        have HV1 := Lib.hid (HV0.out.below hb1)
        have HR1 := Lib.hid (below_row HR2.out hb1 (heap_lt HR2.out))
        have a0 := HV1.out.box.c0
        have a1 := HV1.out.box.c1
        have a2 := HV1.out.box.c2
        have a3 := HV1.out.box.c3
        have a4 := HV1.out.box.c4
        clear hb1
        go_wp2_with fail
        go_at_call 13
        refine (refCopy_any N D W A A' n c m c' false 0 (by omega) (by omega) w1 HV1.out.one HV1.out.two).mono ?_
        rintro e w2 ⟨v1, v2, rfl, hT, hb2⟩
        obtain ⟨A1, n1, c1, rfl, hs1⟩ := hT.one.sl
        obtain ⟨A2, n2, c2, rfl, hs2⟩ := hT.two.sl
        have HT := Lib.hid hT
        have hn1 : n1 ≤ 65536 := by have h1 := hs1.1; have h2 : n = D.length := HV1.out.one.1; omega
        have hn2 : n2 ≤ 16384 := by have h1 := hs2.1; have h2 : m = W.length := HV1.out.two.1; omega
        have HV2 := Lib.hid (HV1.out.below hb2)
        have HR2b := Lib.hid (below_row HR1.out hb2 (heap_lt HR1.out))
        have HB2 := Lib.hid (HB.out.trans (hb2.mono HB.out.size))
        have HP := Lib.hid (show DV (w2.setRow w.heap.size (devC N (.slice A1 n1 c1) (.slice A2 n2 c2) false 0)) w.heap.size A1 n1 c1 A2 n2 c2 ⟨N, D, W, false, 0⟩ from HV2.out.put (y := ⟨N, D, W, false, 0⟩) hs1 hs2 (by omega) (by omega) f1 f2)
        have HR3 := Lib.hid (((grown_setRow w2 w.heap.size (devC N (.slice A1 n1 c1) (.slice A2 n2 c2) false 0)).block (w.heap.size + 1) (heap_lt HR2b.out) (by simp)).trans HR2b.out)
        have HB3 := Lib.hid (below_setRow HB2.out (Nat.le_refl w.heap.size) (devC N (.slice A1 n1 c1) (.slice A2 n2 c2) false 0))
        have O2 := Lib.hid (HT.out.two.farRow (HV1.out.lt) (devC N (.slice A1 n1 c1) (.slice A2 n2 c2) false 0))
        have HW1 := Lib.hid HV1.out.lt
        have O1 := Lib.hid (HT.out.one.farRow (HV1.out.lt) (devC N (.slice A1 n1 c1) (.slice A2 n2 c2) false 0))
        have HAP := Lib.hid HT.out.apart
        have HLO := Lib.hid (fun k hk => (HT.out.two.lt k hk).1)
        have HW1b := Lib.hid (heap_lt HR1.out)
        have g3 : decide ((16384 : Int) ≤ (n2 : Int)) = false := decide_eq_false (by have h1 := hs2.1; have h2 := HM9.out; omega)
        clear hs1 hs2 hT hb2 a0 a1 a2 a3 a4
        go_wp2_with (first | fail | (refine wpList_store_row rfl 25 (.tmp 3) (.tmp 13) rfl w.heap.size #[.int .u32 N, .slice A1 n1 c1, .slice A2 n2 c2, .bool false, .int .i64 0] rfl rfl 25 _ HV2.out.row (by kernel_rfl) rfl (dev_one _ _ _ _ _ _ _ _ _) ?_; change wpList _ _ _ _ _ (w2.setRow w.heap.size (devC N (.slice A1 n1 c1) (.slice A2 n2 c2) false 0)); generalize w2.setRow w.heap.size (devC N (.slice A1 n1 c1) (.slice A2 n2 c2) false 0) = W3 at *; have b0 := HP.out.box.c0; have b1 := HP.out.box.c1; have b2 := HP.out.box.c2; have b3 := HP.out.box.c3; have b4 := HP.out.box.c4; have HRR := Lib.hid HR3.out))
        clear b0 b1 b3 b4
        have hdr : Below W3.heap.size W3 W3.drew := (Below.refl _ _).drew
        have hal : Below W3.drew.heap.size W3.drew (W3.drew.alloc (.cells #[.int .u32 num, .string (cutB s)] 41)) := (Below.refl _ _).alloc (Nat.le_refl _) _
        have z4 : w.heap.size < W3.heap.size := HP.out.lt
        have e2a : (W3.drew.alloc (.cells #[.int .u32 num, .string (cutB s)] 41)).cell? ⟨w.heap.size, 2, none⟩ = some (.slice A2 n2 c2) := (hal.cell (p := ⟨w.heap.size, 2, none⟩) z4).trans b2
        have HPa := Lib.hid ((HP.out.below hdr).below hal)
        have HRa := Lib.hid (below_row (below_row HRR.out hdr (heap_lt HRR.out)) hal (heap_lt HRR.out))
        have HBa := Lib.hid ((HB3.out.trans (hdr.mono HB3.out.size)).trans (hal.mono (show w.heap.size ≤ W3.heap.size from HB3.out.size)))
        have O1a := Lib.hid ((O1.out.go hdr).go hal)
        have HM5 := Lib.hid (show MkB w (W3.drew.alloc (.cells #[.int .u32 num, .string (cutB s)] 41)) (.slice A2 n2 c2) W from ⟨((O2.out.go hdr).go hal).down (Nat.le_of_lt HW1.out), HBa.out⟩)
        have HLn := Lib.hid (Ls.new (enc := enc) (k := 2) W3.drew (⟨num, cutB s⟩ : Bk) 41 (W3.drew.heap.size + 1) (Nat.lt_succ_self _))
        clear hal hdr
        refine wp_region_held_drew (S := fun _ => True) (by kernel_rfl) trivial (fun hHeld => ?_)
        refine take_at 0 35 (.pointer (some ⟨w.heap.size, 2, none⟩)) rfl (by rfl) (by kernel_rfl) (by kernel_rfl) (by kernel_rfl) (fun _ _ _ h => h) (Or.inl ⟨by rfl, fun w' hSw => by go_simp⟩) (by assumption) ?_
        simp only [List.setIfInBounds_toArray, List.set_cons_zero, List.set_cons_succ]
        refine take_at 2 37 (.int .u32 num) rfl (by rfl) (by kernel_rfl) (by kernel_rfl) (by kernel_rfl) (fun _ _ _ h => h) (Or.inl ⟨by rfl, fun w' hSw => by go_simp⟩) (by assumption) ?_
        simp only [List.setIfInBounds_toArray, List.set_cons_zero, List.set_cons_succ]
        refine take_at 3 38 (.string s) rfl (by rfl) (by kernel_rfl) (by kernel_rfl) (by kernel_rfl) (fun _ _ _ h => h) (Or.inl ⟨by rfl, fun w' hSw => by go_simp⟩) (by assumption) ?_
        simp only [List.setIfInBounds_toArray, List.set_cons_zero, List.set_cons_succ]
        refine wpAnyH_ready (rs := [1, 4]) (by kernel_rfl) (by simp) ?_
        refine all_at 1 36 (.slice A2 n2 c2) W3.drew rfl (by rfl) (by rfl) (by go_simp) trivial (fun hHeld => ?_) (AllReadyH.cons rfl (fun K hK => ?_) AllReadyH.nil)
        simp only [List.setIfInBounds_toArray, List.set_cons_zero, List.set_cons_succ]
        refine wpAnyH_ready (rs := [4]) (by kernel_rfl) (by simp) ?_
        refine AllReadyH.cons rfl (fun K hK => ?_) AllReadyH.nil
        go_simp
        go_wp2_with (go_at_call 28; refine (HC.out _).mono ?_; rintro e w' ⟨rfl, rfl⟩)
        refine hK.out _ _ trivial (fun hHeld => ?_)
        clear hK K
        refine take_at 5 40 (.agg #[.int .u32 num, .string (cutB s)]) rfl (by rfl) (by kernel_rfl) (by kernel_rfl) (by kernel_rfl) (fun _ _ _ h => h) (Or.inl ⟨by rfl, fun w' hSw => by go_simp⟩) (by assumption) ?_
        simp only [List.setIfInBounds_toArray, List.set_cons_zero, List.set_cons_succ]
        refine wpAnyH_ready (rs := [6]) (by kernel_rfl) (by simp) ?_
        refine AllReadyH.cons rfl (fun K hK => ?_) AllReadyH.nil
        go_simp
        refine hK.out _ _ trivial (fun hHeld => ?_)
        clear hK K
        rotate_left
        go_simp
        go_wp2_with (go_at_call 28; refine (HC.out _).mono ?_; rintro e w' ⟨rfl, rfl⟩)
        refine hK.out _ _ trivial (fun hHeld => ?_)
        clear hK K
        refine take_at 5 40 (.agg #[.int .u32 num, .string (cutB s)]) rfl (by rfl) (by kernel_rfl) (by kernel_rfl) (by kernel_rfl) (fun _ _ _ h => h) (Or.inl ⟨by rfl, fun w' hSw => by go_simp⟩) (by assumption) ?_
        simp only [List.setIfInBounds_toArray, List.set_cons_zero, List.set_cons_succ]
        refine wpAnyH_ready (rs := [1, 6]) (by kernel_rfl) (by simp) ?_
        refine all_at 1 36 (.slice A2 n2 c2) W3.drew rfl (by rfl) (by rfl) (by go_simp) trivial (fun hHeld => ?_) (AllReadyH.cons rfl (fun K hK => ?_) AllReadyH.nil)
        simp only [List.setIfInBounds_toArray, List.set_cons_zero, List.set_cons_succ]
        refine wpAnyH_ready (rs := [6]) (by kernel_rfl) (by simp) ?_
        refine AllReadyH.cons rfl (fun K hK => ?_) AllReadyH.nil
        go_simp
        refine hK.out _ _ trivial (fun hHeld => ?_)
        clear hK K
        rotate_left
        go_simp
        refine hK.out _ _ trivial (fun hHeld => ?_)
        clear hK K
        refine wpAnyH_ready (rs := [1]) (by kernel_rfl) (by simp) ?_
        refine all_at 1 36 (.slice A2 n2 c2) (W3.drew.alloc (.cells #[.int .u32 num, .string (cutB s)] 41)) rfl (by rfl) (by rfl) (by go_simp) trivial (fun hHeld => ?_) all_nil
        simp only [List.setIfInBounds_toArray, List.set_cons_zero, List.set_cons_succ]
        all_goals
          refine wpAnyH_ready (rs := [7]) (by kernel_rfl) (by simp) ?_
          refine AllReadyH.cons rfl (fun K hK => ?_) AllReadyH.nil
          rw [if_pos (by rfl)]
          refine op_catB HM5.out [⟨num, cutB s⟩] _ 1 1 rfl HLn.out (by have := HWL.out; omega) _ _ rfl rfl rfl ?_
          intro v6 w6 hM6 hG6
          obtain ⟨A6, n6, c6, rfl, hs6⟩ := SlB.of_mk hM6
          have HS6 := Lib.hid hs6
          have HB6 := Lib.hid hM6.2
          have RW6 := Lib.hid ((hG6.block w.heap.size HPa.out.lt (fun e => Nat.lt_irrefl _ (Nat.lt_of_lt_of_le HW1.out (HLO.out _ e.symm)))).trans HPa.out.row)
          have HR6 := Lib.hid ((hG6.block (w.heap.size + 1) (heap_lt HRa.out) (fun e => Nat.lt_irrefl _ (Nat.lt_of_lt_of_le HW1b.out (HLO.out _ e.symm)))).trans HRa.out)
          have HS1 := Lib.hid ((O1a.out.grown hG6 (fun k hk e => HAP.out k hk e)).slOf)
          clear hM6 hG6 hs6
          refine hK.out _ _ trivial (fun hHeld => ?_)
          clear hK K
          simp only [Act.put, List.setIfInBounds_toArray, List.set_cons_zero, List.set_cons_succ]
          refine take_at 8 43 (.pointer (some ⟨w.heap.size, 2, none⟩)) rfl (by rfl) (by kernel_rfl) (by kernel_rfl) (by kernel_rfl) (fun _ _ _ h => h) (Or.inl ⟨by rfl, fun w' hSw => by go_simp⟩) (by assumption) ?_
          simp only [List.setIfInBounds_toArray, List.set_cons_zero, List.set_cons_succ]
          have BX6 := row_dev RW6.out
          have d2 := BX6.c2
          have g2 := BX6.fr 2
          refine wpAnyH_ready (rs := [9]) (by kernel_rfl) (by simp) ?_
          refine AllReadyH.cons rfl (fun K hK => ?_) AllReadyH.nil
          go_simp
          refine hK.out _ _ trivial (fun hHeld => ?_)
          clear hK K
          refine wpAnyH_done (by kernel_rfl) ?_ _
          have HV7 := Lib.hid (DV.waits (v2 := .bool true) RW6.out HS1.out HS6.out (by omega) (by have h := HS6.out.1; have := HWL.out; simp only [List.length_append, List.length_singleton] at h; omega) f1 f2)
          have HR7 := Lib.hid (((grown_cell w6 w.heap.size 2 (.slice A6 n6 c6)).block (w.heap.size + 1) (heap_lt HR6.out) (by simp)).trans HR6.out)
          have HB7 := Lib.hid (HB6.out.setCell (p := ⟨w.heap.size, 2, none⟩) (Nat.le_refl _) (.slice A6 n6 c6))
          clear d2 g2 BX6
          generalize w6.setCell _ _ = w7 at *
          have y0 := HV7.out.box.c0
          have y1 := HV7.out.box.c1
          have y2 := HV7.out.box.c2
          have y3 := HV7.out.box.c3
          have y4 := HV7.out.box.c4
          have f3 := HV7.out.box.fr 3
          have HV8 := Lib.hid (HV7.out.down true)
          have HRR := Lib.hid (((grown_cell w7 w.heap.size 3 (.bool true)).block (w.heap.size + 1) (heap_lt HR7.out) (by simp)).trans HR7.out)
          have HB8 := Lib.hid (HB7.out.setCell (p := ⟨w.heap.size, 3, none⟩) (Nat.le_refl _) (.bool true))
          go_wp2_with (refine wpList_store_row rfl 25 (.tmp 6) (.tmp 48) rfl (w.heap.size + 1) #[.int .u32 N, .slice A1 n1 c1, .slice A6 n6 c6, .bool true, .int .i64 0] rfl rfl 25 zAt HRR.out (by kernel_rfl) rfl (dev_one _ _ _ _ _ _ _ _ _) ?_)
          have hg2 := setRow_heap' (cs := #[.int .u32 N, .slice A1 n1 c1, .slice A6 n6 c6, .bool true, .int .i64 0]) HRR.out
          refine bodyPost_ret (v := .tuple #[.agg #[.int .u32 N, .slice A1 n1 c1, .slice A6 n6 c6, .bool true, .int .i64 0], .int .i64 17]) (results_row2 rfl _ _ (w.heap.size + 1) 25 #[.int .u32 N, .slice A1 n1 c1, .slice A6 n6 c6, .bool true, .int .i64 0] (0, 0) _ rfl hg2 Tryd.underlying25 rfl (by kernel_rfl) _ rfl) rfl ?_
          exact ⟨_, rfl, HV8.out.answer HRR.out _, below_setRow HB8.out (Nat.le_succ _) _⟩
      · rw [show burnE fu = 0 by unfold burnE; rw [if_neg h0], show burnD false fu = false by unfold burnD; rw [if_neg h0]]
        have q0 : decide (fu = 0) = false := decide_eq_false h0
        have q0' : (fu == 0) = false := by rw [beq_eq_false_iff_ne]; exact h0
        by_cases h1 : 0 < fu
        · have q1 : decide (0 < fu) = true := decide_eq_true h1
          rw [show burnF fu = fu - 1 by unfold burnF; rw [if_pos h1]]
          go_enter Tryd.func15, Tryd.ntmps15
          go_wp2_with fail
          generalize (w.alloc _).alloc _ = W0 at *
          go_at_call 23
          refine (refCheck_any N D W A A' n c m c' false fu (by omega) (by omega) W0 HV0.out.one HV0.out.two).mono ?_
          rw [HCH.out]
          rintro e w1 ⟨rfl, hb1⟩
          have HB := Lib.hid (HS.out.trans (hb1.mono HS.out.size))
          have HV1 := Lib.hid (HV0.out.below hb1)
          have HR1 := Lib.hid (below_row HR2.out hb1 (heap_lt HR2.out))
          have a0 := HV1.out.box.c0
          have a1 := HV1.out.box.c1
          have a2 := HV1.out.box.c2
          have a3 := HV1.out.box.c3
          have a4 := HV1.out.box.c4
          clear hb1
          go_wp2_with fail
          go_at_call 13
          refine (refCopy_any N D W A A' n c m c' false fu (by omega) (by omega) w1 HV1.out.one HV1.out.two).mono ?_
          rintro e w2 ⟨v1, v2, rfl, hT, hb2⟩
          obtain ⟨A1, n1, c1, rfl, hs1⟩ := hT.one.sl
          obtain ⟨A2, n2, c2, rfl, hs2⟩ := hT.two.sl
          have HT := Lib.hid hT
          have hn1 : n1 ≤ 65536 := by have h1 := hs1.1; have h2 : n = D.length := HV1.out.one.1; omega
          have hn2 : n2 ≤ 16384 := by have h1 := hs2.1; have h2 : m = W.length := HV1.out.two.1; omega
          have HV2 := Lib.hid (HV1.out.below hb2)
          have HR2b := Lib.hid (below_row HR1.out hb2 (heap_lt HR1.out))
          have HB2 := Lib.hid (HB.out.trans (hb2.mono HB.out.size))
          have HP := Lib.hid (show DV (w2.setRow w.heap.size (devC N (.slice A1 n1 c1) (.slice A2 n2 c2) false fu)) w.heap.size A1 n1 c1 A2 n2 c2 ⟨N, D, W, false, fu⟩ from HV2.out.put (y := ⟨N, D, W, false, fu⟩) hs1 hs2 (by omega) (by omega) f1 f2)
          have HR3 := Lib.hid (((grown_setRow w2 w.heap.size (devC N (.slice A1 n1 c1) (.slice A2 n2 c2) false fu)).block (w.heap.size + 1) (heap_lt HR2b.out) (by simp)).trans HR2b.out)
          have HB3 := Lib.hid (below_setRow HB2.out (Nat.le_refl w.heap.size) (devC N (.slice A1 n1 c1) (.slice A2 n2 c2) false fu))
          have O2 := Lib.hid (HT.out.two.farRow (HV1.out.lt) (devC N (.slice A1 n1 c1) (.slice A2 n2 c2) false fu))
          have HW1 := Lib.hid HV1.out.lt
          have O1 := Lib.hid (HT.out.one.farRow (HV1.out.lt) (devC N (.slice A1 n1 c1) (.slice A2 n2 c2) false fu))
          have HAP := Lib.hid HT.out.apart
          have HLO := Lib.hid (fun k hk => (HT.out.two.lt k hk).1)
          have HW1b := Lib.hid (heap_lt HR1.out)
          have g3 : decide ((16384 : Int) ≤ (n2 : Int)) = false := decide_eq_false (by have h1 := hs2.1; have h2 := HM9.out; omega)
          clear hs1 hs2 hT hb2 a0 a1 a2 a3 a4
          go_wp2_with (first | fail | (refine wpList_store_row rfl 25 (.tmp 3) (.tmp 13) rfl w.heap.size #[.int .u32 N, .slice A1 n1 c1, .slice A2 n2 c2, .bool false, .int .i64 fu] rfl rfl 25 _ HV2.out.row (by kernel_rfl) rfl (dev_one _ _ _ _ _ _ _ _ _) ?_; change wpList _ _ _ _ _ (w2.setRow w.heap.size (devC N (.slice A1 n1 c1) (.slice A2 n2 c2) false fu)); generalize w2.setRow w.heap.size (devC N (.slice A1 n1 c1) (.slice A2 n2 c2) false fu) = W3 at *; have b0 := HP.out.box.c0; have b1 := HP.out.box.c1; have b2 := HP.out.box.c2; have b3 := HP.out.box.c3; have b4 := HP.out.box.c4; have HRR := Lib.hid HR3.out))
          clear b0 b1 b3 b4
          have hdr : Below W3.heap.size W3 W3.drew := (Below.refl _ _).drew
          have hal : Below W3.drew.heap.size W3.drew (W3.drew.alloc (.cells #[.int .u32 num, .string (cutB s)] 41)) := (Below.refl _ _).alloc (Nat.le_refl _) _
          have z4 : w.heap.size < W3.heap.size := HP.out.lt
          have e2a : (W3.drew.alloc (.cells #[.int .u32 num, .string (cutB s)] 41)).cell? ⟨w.heap.size, 2, none⟩ = some (.slice A2 n2 c2) := (hal.cell (p := ⟨w.heap.size, 2, none⟩) z4).trans b2
          have HPa := Lib.hid ((HP.out.below hdr).below hal)
          have HRa := Lib.hid (below_row (below_row HRR.out hdr (heap_lt HRR.out)) hal (heap_lt HRR.out))
          have HBa := Lib.hid ((HB3.out.trans (hdr.mono HB3.out.size)).trans (hal.mono (show w.heap.size ≤ W3.heap.size from HB3.out.size)))
          have O1a := Lib.hid ((O1.out.go hdr).go hal)
          have HM5 := Lib.hid (show MkB w (W3.drew.alloc (.cells #[.int .u32 num, .string (cutB s)] 41)) (.slice A2 n2 c2) W from ⟨((O2.out.go hdr).go hal).down (Nat.le_of_lt HW1.out), HBa.out⟩)
          have HLn := Lib.hid (Ls.new (enc := enc) (k := 2) W3.drew (⟨num, cutB s⟩ : Bk) 41 (W3.drew.heap.size + 1) (Nat.lt_succ_self _))
          clear hal hdr
          refine wp_region_held_drew (S := fun _ => True) (by kernel_rfl) trivial (fun hHeld => ?_)
          refine take_at 0 35 (.pointer (some ⟨w.heap.size, 2, none⟩)) rfl (by rfl) (by kernel_rfl) (by kernel_rfl) (by kernel_rfl) (fun _ _ _ h => h) (Or.inl ⟨by rfl, fun w' hSw => by go_simp⟩) (by assumption) ?_
          simp only [List.setIfInBounds_toArray, List.set_cons_zero, List.set_cons_succ]
          refine take_at 2 37 (.int .u32 num) rfl (by rfl) (by kernel_rfl) (by kernel_rfl) (by kernel_rfl) (fun _ _ _ h => h) (Or.inl ⟨by rfl, fun w' hSw => by go_simp⟩) (by assumption) ?_
          simp only [List.setIfInBounds_toArray, List.set_cons_zero, List.set_cons_succ]
          refine take_at 3 38 (.string s) rfl (by rfl) (by kernel_rfl) (by kernel_rfl) (by kernel_rfl) (fun _ _ _ h => h) (Or.inl ⟨by rfl, fun w' hSw => by go_simp⟩) (by assumption) ?_
          simp only [List.setIfInBounds_toArray, List.set_cons_zero, List.set_cons_succ]
          refine wpAnyH_ready (rs := [1, 4]) (by kernel_rfl) (by simp) ?_
          refine all_at 1 36 (.slice A2 n2 c2) W3.drew rfl (by rfl) (by rfl) (by go_simp) trivial (fun hHeld => ?_) (AllReadyH.cons rfl (fun K hK => ?_) AllReadyH.nil)
          simp only [List.setIfInBounds_toArray, List.set_cons_zero, List.set_cons_succ]
          refine wpAnyH_ready (rs := [4]) (by kernel_rfl) (by simp) ?_
          refine AllReadyH.cons rfl (fun K hK => ?_) AllReadyH.nil
          go_simp
          go_wp2_with (go_at_call 28; refine (HC.out _).mono ?_; rintro e w' ⟨rfl, rfl⟩)
          refine hK.out _ _ trivial (fun hHeld => ?_)
          clear hK K
          refine take_at 5 40 (.agg #[.int .u32 num, .string (cutB s)]) rfl (by rfl) (by kernel_rfl) (by kernel_rfl) (by kernel_rfl) (fun _ _ _ h => h) (Or.inl ⟨by rfl, fun w' hSw => by go_simp⟩) (by assumption) ?_
          simp only [List.setIfInBounds_toArray, List.set_cons_zero, List.set_cons_succ]
          refine wpAnyH_ready (rs := [6]) (by kernel_rfl) (by simp) ?_
          refine AllReadyH.cons rfl (fun K hK => ?_) AllReadyH.nil
          go_simp
          refine hK.out _ _ trivial (fun hHeld => ?_)
          clear hK K
          rotate_left
          go_simp
          go_wp2_with (go_at_call 28; refine (HC.out _).mono ?_; rintro e w' ⟨rfl, rfl⟩)
          refine hK.out _ _ trivial (fun hHeld => ?_)
          clear hK K
          refine take_at 5 40 (.agg #[.int .u32 num, .string (cutB s)]) rfl (by rfl) (by kernel_rfl) (by kernel_rfl) (by kernel_rfl) (fun _ _ _ h => h) (Or.inl ⟨by rfl, fun w' hSw => by go_simp⟩) (by assumption) ?_
          simp only [List.setIfInBounds_toArray, List.set_cons_zero, List.set_cons_succ]
          refine wpAnyH_ready (rs := [1, 6]) (by kernel_rfl) (by simp) ?_
          refine all_at 1 36 (.slice A2 n2 c2) W3.drew rfl (by rfl) (by rfl) (by go_simp) trivial (fun hHeld => ?_) (AllReadyH.cons rfl (fun K hK => ?_) AllReadyH.nil)
          simp only [List.setIfInBounds_toArray, List.set_cons_zero, List.set_cons_succ]
          refine wpAnyH_ready (rs := [6]) (by kernel_rfl) (by simp) ?_
          refine AllReadyH.cons rfl (fun K hK => ?_) AllReadyH.nil
          go_simp
          refine hK.out _ _ trivial (fun hHeld => ?_)
          clear hK K
          rotate_left
          go_simp
          refine hK.out _ _ trivial (fun hHeld => ?_)
          clear hK K
          refine wpAnyH_ready (rs := [1]) (by kernel_rfl) (by simp) ?_
          refine all_at 1 36 (.slice A2 n2 c2) (W3.drew.alloc (.cells #[.int .u32 num, .string (cutB s)] 41)) rfl (by rfl) (by rfl) (by go_simp) trivial (fun hHeld => ?_) all_nil
          simp only [List.setIfInBounds_toArray, List.set_cons_zero, List.set_cons_succ]
          all_goals
            refine wpAnyH_ready (rs := [7]) (by kernel_rfl) (by simp) ?_
            refine AllReadyH.cons rfl (fun K hK => ?_) AllReadyH.nil
            rw [if_pos (by rfl)]
            refine op_catB HM5.out [⟨num, cutB s⟩] _ 1 1 rfl HLn.out (by have := HWL.out; omega) _ _ rfl rfl rfl ?_
            intro v6 w6 hM6 hG6
            obtain ⟨A6, n6, c6, rfl, hs6⟩ := SlB.of_mk hM6
            have HS6 := Lib.hid hs6
            have HB6 := Lib.hid hM6.2
            have RW6 := Lib.hid ((hG6.block w.heap.size HPa.out.lt (fun e => Nat.lt_irrefl _ (Nat.lt_of_lt_of_le HW1.out (HLO.out _ e.symm)))).trans HPa.out.row)
            have HR6 := Lib.hid ((hG6.block (w.heap.size + 1) (heap_lt HRa.out) (fun e => Nat.lt_irrefl _ (Nat.lt_of_lt_of_le HW1b.out (HLO.out _ e.symm)))).trans HRa.out)
            have HS1 := Lib.hid ((O1a.out.grown hG6 (fun k hk e => HAP.out k hk e)).slOf)
            clear hM6 hG6 hs6
            refine hK.out _ _ trivial (fun hHeld => ?_)
            clear hK K
            simp only [Act.put, List.setIfInBounds_toArray, List.set_cons_zero, List.set_cons_succ]
            refine take_at 8 43 (.pointer (some ⟨w.heap.size, 2, none⟩)) rfl (by rfl) (by kernel_rfl) (by kernel_rfl) (by kernel_rfl) (fun _ _ _ h => h) (Or.inl ⟨by rfl, fun w' hSw => by go_simp⟩) (by assumption) ?_
            simp only [List.setIfInBounds_toArray, List.set_cons_zero, List.set_cons_succ]
            have BX6 := row_dev RW6.out
            have d2 := BX6.c2
            have g2 := BX6.fr 2
            refine wpAnyH_ready (rs := [9]) (by kernel_rfl) (by simp) ?_
            refine AllReadyH.cons rfl (fun K hK => ?_) AllReadyH.nil
            go_simp
            refine hK.out _ _ trivial (fun hHeld => ?_)
            clear hK K
            refine wpAnyH_done (by kernel_rfl) ?_ _
            have HV7 := Lib.hid (DV.waits (v2 := .bool true) RW6.out HS1.out HS6.out (by omega) (by have h := HS6.out.1; have := HWL.out; simp only [List.length_append, List.length_singleton] at h; omega) f1 f2)
            have HR7 := Lib.hid (((grown_cell w6 w.heap.size 2 (.slice A6 n6 c6)).block (w.heap.size + 1) (heap_lt HR6.out) (by simp)).trans HR6.out)
            have HB7 := Lib.hid (HB6.out.setCell (p := ⟨w.heap.size, 2, none⟩) (Nat.le_refl _) (.slice A6 n6 c6))
            clear d2 g2 BX6
            generalize w6.setCell _ _ = w7 at *
            have y0 := HV7.out.box.c0
            have y1 := HV7.out.box.c1
            have y2 := HV7.out.box.c2
            have y3 := HV7.out.box.c3
            have y4 := HV7.out.box.c4
            have f4 := HV7.out.box.fr 4
            have HV8 := Lib.hid (HV7.out.fuse (fu - 1) (by omega) (by omega))
            have HRR := Lib.hid (((grown_cell w7 w.heap.size 4 (.int .i64 (fu - 1))).block (w.heap.size + 1) (heap_lt HR7.out) (by simp)).trans HR7.out)
            have HB8 := Lib.hid (HB7.out.setCell (p := ⟨w.heap.size, 4, none⟩) (Nat.le_refl _) (.int .i64 (fu - 1)))
            go_wp2_with (refine wpList_store_row rfl 25 (.tmp 6) (.tmp 56) rfl (w.heap.size + 1) #[.int .u32 N, .slice A1 n1 c1, .slice A6 n6 c6, .bool false, .int .i64 (fu - 1)] rfl rfl 25 zAt HRR.out (by kernel_rfl) rfl (dev_one _ _ _ _ _ _ _ _ _) ?_)
            have hg2 := setRow_heap' (cs := #[.int .u32 N, .slice A1 n1 c1, .slice A6 n6 c6, .bool false, .int .i64 (fu - 1)]) HRR.out
            refine bodyPost_ret (v := .tuple #[.agg #[.int .u32 N, .slice A1 n1 c1, .slice A6 n6 c6, .bool false, .int .i64 (fu - 1)], .int .i64 0]) (results_row2 rfl _ _ (w.heap.size + 1) 25 #[.int .u32 N, .slice A1 n1 c1, .slice A6 n6 c6, .bool false, .int .i64 (fu - 1)] (0, 0) _ rfl hg2 Tryd.underlying25 rfl (by kernel_rfl) _ rfl) rfl ?_
            exact ⟨_, rfl, HV8.out.answer HRR.out _, below_setRow HB8.out (Nat.le_succ _) _⟩
        · have q1 : decide (0 < fu) = false := decide_eq_false h1
          rw [show burnF fu = fu by unfold burnF; rw [if_neg h1]]
          go_enter Tryd.func15, Tryd.ntmps15
          go_wp2_with fail
          generalize (w.alloc _).alloc _ = W0 at *
          go_at_call 23
          refine (refCheck_any N D W A A' n c m c' false fu (by omega) (by omega) W0 HV0.out.one HV0.out.two).mono ?_
          rw [HCH.out]
          rintro e w1 ⟨rfl, hb1⟩
          have HB := Lib.hid (HS.out.trans (hb1.mono HS.out.size))
          have HV1 := Lib.hid (HV0.out.below hb1)
          have HR1 := Lib.hid (below_row HR2.out hb1 (heap_lt HR2.out))
          have a0 := HV1.out.box.c0
          have a1 := HV1.out.box.c1
          have a2 := HV1.out.box.c2
          have a3 := HV1.out.box.c3
          have a4 := HV1.out.box.c4
          clear hb1
          go_wp2_with fail
          go_at_call 13
          refine (refCopy_any N D W A A' n c m c' false fu (by omega) (by omega) w1 HV1.out.one HV1.out.two).mono ?_
          rintro e w2 ⟨v1, v2, rfl, hT, hb2⟩
          obtain ⟨A1, n1, c1, rfl, hs1⟩ := hT.one.sl
          obtain ⟨A2, n2, c2, rfl, hs2⟩ := hT.two.sl
          have HT := Lib.hid hT
          have hn1 : n1 ≤ 65536 := by have h1 := hs1.1; have h2 : n = D.length := HV1.out.one.1; omega
          have hn2 : n2 ≤ 16384 := by have h1 := hs2.1; have h2 : m = W.length := HV1.out.two.1; omega
          have HV2 := Lib.hid (HV1.out.below hb2)
          have HR2b := Lib.hid (below_row HR1.out hb2 (heap_lt HR1.out))
          have HB2 := Lib.hid (HB.out.trans (hb2.mono HB.out.size))
          have HP := Lib.hid (show DV (w2.setRow w.heap.size (devC N (.slice A1 n1 c1) (.slice A2 n2 c2) false fu)) w.heap.size A1 n1 c1 A2 n2 c2 ⟨N, D, W, false, fu⟩ from HV2.out.put (y := ⟨N, D, W, false, fu⟩) hs1 hs2 (by omega) (by omega) f1 f2)
          have HR3 := Lib.hid (((grown_setRow w2 w.heap.size (devC N (.slice A1 n1 c1) (.slice A2 n2 c2) false fu)).block (w.heap.size + 1) (heap_lt HR2b.out) (by simp)).trans HR2b.out)
          have HB3 := Lib.hid (below_setRow HB2.out (Nat.le_refl w.heap.size) (devC N (.slice A1 n1 c1) (.slice A2 n2 c2) false fu))
          have O2 := Lib.hid (HT.out.two.farRow (HV1.out.lt) (devC N (.slice A1 n1 c1) (.slice A2 n2 c2) false fu))
          have HW1 := Lib.hid HV1.out.lt
          have O1 := Lib.hid (HT.out.one.farRow (HV1.out.lt) (devC N (.slice A1 n1 c1) (.slice A2 n2 c2) false fu))
          have HAP := Lib.hid HT.out.apart
          have HLO := Lib.hid (fun k hk => (HT.out.two.lt k hk).1)
          have HW1b := Lib.hid (heap_lt HR1.out)
          have g3 : decide ((16384 : Int) ≤ (n2 : Int)) = false := decide_eq_false (by have h1 := hs2.1; have h2 := HM9.out; omega)
          clear hs1 hs2 hT hb2 a0 a1 a2 a3 a4
          go_wp2_with (first | fail | (refine wpList_store_row rfl 25 (.tmp 3) (.tmp 13) rfl w.heap.size #[.int .u32 N, .slice A1 n1 c1, .slice A2 n2 c2, .bool false, .int .i64 fu] rfl rfl 25 _ HV2.out.row (by kernel_rfl) rfl (dev_one _ _ _ _ _ _ _ _ _) ?_; change wpList _ _ _ _ _ (w2.setRow w.heap.size (devC N (.slice A1 n1 c1) (.slice A2 n2 c2) false fu)); generalize w2.setRow w.heap.size (devC N (.slice A1 n1 c1) (.slice A2 n2 c2) false fu) = W3 at *; have b0 := HP.out.box.c0; have b1 := HP.out.box.c1; have b2 := HP.out.box.c2; have b3 := HP.out.box.c3; have b4 := HP.out.box.c4; have HRR := Lib.hid HR3.out))
          clear b0 b1 b3 b4
          have hdr : Below W3.heap.size W3 W3.drew := (Below.refl _ _).drew
          have hal : Below W3.drew.heap.size W3.drew (W3.drew.alloc (.cells #[.int .u32 num, .string (cutB s)] 41)) := (Below.refl _ _).alloc (Nat.le_refl _) _
          have z4 : w.heap.size < W3.heap.size := HP.out.lt
          have e2a : (W3.drew.alloc (.cells #[.int .u32 num, .string (cutB s)] 41)).cell? ⟨w.heap.size, 2, none⟩ = some (.slice A2 n2 c2) := (hal.cell (p := ⟨w.heap.size, 2, none⟩) z4).trans b2
          have HPa := Lib.hid ((HP.out.below hdr).below hal)
          have HRa := Lib.hid (below_row (below_row HRR.out hdr (heap_lt HRR.out)) hal (heap_lt HRR.out))
          have HBa := Lib.hid ((HB3.out.trans (hdr.mono HB3.out.size)).trans (hal.mono (show w.heap.size ≤ W3.heap.size from HB3.out.size)))
          have O1a := Lib.hid ((O1.out.go hdr).go hal)
          have HM5 := Lib.hid (show MkB w (W3.drew.alloc (.cells #[.int .u32 num, .string (cutB s)] 41)) (.slice A2 n2 c2) W from ⟨((O2.out.go hdr).go hal).down (Nat.le_of_lt HW1.out), HBa.out⟩)
          have HLn := Lib.hid (Ls.new (enc := enc) (k := 2) W3.drew (⟨num, cutB s⟩ : Bk) 41 (W3.drew.heap.size + 1) (Nat.lt_succ_self _))
          clear hal hdr
          refine wp_region_held_drew (S := fun _ => True) (by kernel_rfl) trivial (fun hHeld => ?_)
          refine take_at 0 35 (.pointer (some ⟨w.heap.size, 2, none⟩)) rfl (by rfl) (by kernel_rfl) (by kernel_rfl) (by kernel_rfl) (fun _ _ _ h => h) (Or.inl ⟨by rfl, fun w' hSw => by go_simp⟩) (by assumption) ?_
          simp only [List.setIfInBounds_toArray, List.set_cons_zero, List.set_cons_succ]
          refine take_at 2 37 (.int .u32 num) rfl (by rfl) (by kernel_rfl) (by kernel_rfl) (by kernel_rfl) (fun _ _ _ h => h) (Or.inl ⟨by rfl, fun w' hSw => by go_simp⟩) (by assumption) ?_
          simp only [List.setIfInBounds_toArray, List.set_cons_zero, List.set_cons_succ]
          refine take_at 3 38 (.string s) rfl (by rfl) (by kernel_rfl) (by kernel_rfl) (by kernel_rfl) (fun _ _ _ h => h) (Or.inl ⟨by rfl, fun w' hSw => by go_simp⟩) (by assumption) ?_
          simp only [List.setIfInBounds_toArray, List.set_cons_zero, List.set_cons_succ]
          refine wpAnyH_ready (rs := [1, 4]) (by kernel_rfl) (by simp) ?_
          refine all_at 1 36 (.slice A2 n2 c2) W3.drew rfl (by rfl) (by rfl) (by go_simp) trivial (fun hHeld => ?_) (AllReadyH.cons rfl (fun K hK => ?_) AllReadyH.nil)
          simp only [List.setIfInBounds_toArray, List.set_cons_zero, List.set_cons_succ]
          refine wpAnyH_ready (rs := [4]) (by kernel_rfl) (by simp) ?_
          refine AllReadyH.cons rfl (fun K hK => ?_) AllReadyH.nil
          go_simp
          go_wp2_with (go_at_call 28; refine (HC.out _).mono ?_; rintro e w' ⟨rfl, rfl⟩)
          refine hK.out _ _ trivial (fun hHeld => ?_)
          clear hK K
          refine take_at 5 40 (.agg #[.int .u32 num, .string (cutB s)]) rfl (by rfl) (by kernel_rfl) (by kernel_rfl) (by kernel_rfl) (fun _ _ _ h => h) (Or.inl ⟨by rfl, fun w' hSw => by go_simp⟩) (by assumption) ?_
          simp only [List.setIfInBounds_toArray, List.set_cons_zero, List.set_cons_succ]
          refine wpAnyH_ready (rs := [6]) (by kernel_rfl) (by simp) ?_
          refine AllReadyH.cons rfl (fun K hK => ?_) AllReadyH.nil
          go_simp
          refine hK.out _ _ trivial (fun hHeld => ?_)
          clear hK K
          rotate_left
          go_simp
          go_wp2_with (go_at_call 28; refine (HC.out _).mono ?_; rintro e w' ⟨rfl, rfl⟩)
          refine hK.out _ _ trivial (fun hHeld => ?_)
          clear hK K
          refine take_at 5 40 (.agg #[.int .u32 num, .string (cutB s)]) rfl (by rfl) (by kernel_rfl) (by kernel_rfl) (by kernel_rfl) (fun _ _ _ h => h) (Or.inl ⟨by rfl, fun w' hSw => by go_simp⟩) (by assumption) ?_
          simp only [List.setIfInBounds_toArray, List.set_cons_zero, List.set_cons_succ]
          refine wpAnyH_ready (rs := [1, 6]) (by kernel_rfl) (by simp) ?_
          refine all_at 1 36 (.slice A2 n2 c2) W3.drew rfl (by rfl) (by rfl) (by go_simp) trivial (fun hHeld => ?_) (AllReadyH.cons rfl (fun K hK => ?_) AllReadyH.nil)
          simp only [List.setIfInBounds_toArray, List.set_cons_zero, List.set_cons_succ]
          refine wpAnyH_ready (rs := [6]) (by kernel_rfl) (by simp) ?_
          refine AllReadyH.cons rfl (fun K hK => ?_) AllReadyH.nil
          go_simp
          refine hK.out _ _ trivial (fun hHeld => ?_)
          clear hK K
          rotate_left
          go_simp
          refine hK.out _ _ trivial (fun hHeld => ?_)
          clear hK K
          refine wpAnyH_ready (rs := [1]) (by kernel_rfl) (by simp) ?_
          refine all_at 1 36 (.slice A2 n2 c2) (W3.drew.alloc (.cells #[.int .u32 num, .string (cutB s)] 41)) rfl (by rfl) (by rfl) (by go_simp) trivial (fun hHeld => ?_) all_nil
          simp only [List.setIfInBounds_toArray, List.set_cons_zero, List.set_cons_succ]
          all_goals
            refine wpAnyH_ready (rs := [7]) (by kernel_rfl) (by simp) ?_
            refine AllReadyH.cons rfl (fun K hK => ?_) AllReadyH.nil
            rw [if_pos (by rfl)]
            refine op_catB HM5.out [⟨num, cutB s⟩] _ 1 1 rfl HLn.out (by have := HWL.out; omega) _ _ rfl rfl rfl ?_
            intro v6 w6 hM6 hG6
            obtain ⟨A6, n6, c6, rfl, hs6⟩ := SlB.of_mk hM6
            have HS6 := Lib.hid hs6
            have HB6 := Lib.hid hM6.2
            have RW6 := Lib.hid ((hG6.block w.heap.size HPa.out.lt (fun e => Nat.lt_irrefl _ (Nat.lt_of_lt_of_le HW1.out (HLO.out _ e.symm)))).trans HPa.out.row)
            have HR6 := Lib.hid ((hG6.block (w.heap.size + 1) (heap_lt HRa.out) (fun e => Nat.lt_irrefl _ (Nat.lt_of_lt_of_le HW1b.out (HLO.out _ e.symm)))).trans HRa.out)
            have HS1 := Lib.hid ((O1a.out.grown hG6 (fun k hk e => HAP.out k hk e)).slOf)
            clear hM6 hG6 hs6
            refine hK.out _ _ trivial (fun hHeld => ?_)
            clear hK K
            simp only [Act.put, List.setIfInBounds_toArray, List.set_cons_zero, List.set_cons_succ]
            refine take_at 8 43 (.pointer (some ⟨w.heap.size, 2, none⟩)) rfl (by rfl) (by kernel_rfl) (by kernel_rfl) (by kernel_rfl) (fun _ _ _ h => h) (Or.inl ⟨by rfl, fun w' hSw => by go_simp⟩) (by assumption) ?_
            simp only [List.setIfInBounds_toArray, List.set_cons_zero, List.set_cons_succ]
            have BX6 := row_dev RW6.out
            have d2 := BX6.c2
            have g2 := BX6.fr 2
            refine wpAnyH_ready (rs := [9]) (by kernel_rfl) (by simp) ?_
            refine AllReadyH.cons rfl (fun K hK => ?_) AllReadyH.nil
            go_simp
            refine hK.out _ _ trivial (fun hHeld => ?_)
            clear hK K
            refine wpAnyH_done (by kernel_rfl) ?_ _
            have HV7 := Lib.hid (DV.waits (v2 := .bool true) RW6.out HS1.out HS6.out (by omega) (by have h := HS6.out.1; have := HWL.out; simp only [List.length_append, List.length_singleton] at h; omega) f1 f2)
            have HR7 := Lib.hid (((grown_cell w6 w.heap.size 2 (.slice A6 n6 c6)).block (w.heap.size + 1) (heap_lt HR6.out) (by simp)).trans HR6.out)
            have HB7 := Lib.hid (HB6.out.setCell (p := ⟨w.heap.size, 2, none⟩) (Nat.le_refl _) (.slice A6 n6 c6))
            clear d2 g2 BX6
            generalize w6.setCell _ _ = w7 at *
            have y0 := HV7.out.box.c0
            have y1 := HV7.out.box.c1
            have y2 := HV7.out.box.c2
            have y3 := HV7.out.box.c3
            have y4 := HV7.out.box.c4
            have HRR := Lib.hid HR7.out
            go_wp2_with (refine wpList_store_row rfl 25 (.tmp 6) (.tmp 56) rfl (w.heap.size + 1) #[.int .u32 N, .slice A1 n1 c1, .slice A6 n6 c6, .bool false, .int .i64 fu] rfl rfl 25 zAt HRR.out (by kernel_rfl) rfl (dev_one _ _ _ _ _ _ _ _ _) ?_)
            have hg2 := setRow_heap' (cs := #[.int .u32 N, .slice A1 n1 c1, .slice A6 n6 c6, .bool false, .int .i64 fu]) HRR.out
            refine bodyPost_ret (v := .tuple #[.agg #[.int .u32 N, .slice A1 n1 c1, .slice A6 n6 c6, .bool false, .int .i64 fu], .int .i64 0]) (results_row2 rfl _ _ (w.heap.size + 1) 25 #[.int .u32 N, .slice A1 n1 c1, .slice A6 n6 c6, .bool false, .int .i64 fu] (0, 0) _ rfl hg2 Tryd.underlying25 rfl (by kernel_rfl) _ rfl) rfl ?_
            exact ⟨_, rfl, HV7.out.answer HRR.out _, below_setRow HB7.out (Nat.le_succ _) _⟩
    · have HY := Lib.hid (show De.why ⟨N, D, W, true, fu⟩ num s = 17 from rfl)
      have HE := Lib.hid (show wrO ⟨N, D, W, true, fu⟩ num s = 17 by unfold wrO; rw [hr, if_pos rfl, HY.out]; rfl)
      have HX := Lib.hid (show wrX ⟨N, D, W, true, fu⟩ num s = ⟨N, D, W, true, fu⟩ by unfold wrX; rw [hr, if_pos rfl, HY.out]; rfl)
      rw [HE.out, HX.out]
      clear hr HE HX
      go_enter Tryd.func15, Tryd.ntmps15
      go_wp2_with fail
      generalize (w.alloc _).alloc _ = W0 at *
      go_at_call 23
      refine (refCheck_any N D W A A' n c m c' true fu (by omega) (by omega) W0 HV0.out.one HV0.out.two).mono ?_
      rw [HCH.out]
      rintro e w1 ⟨rfl, hb1⟩
      have HB := Lib.hid (HS.out.trans (hb1.mono HS.out.size))
      have HV1 := Lib.hid (HV0.out.below hb1)
      have HR1 := Lib.hid (below_row HR2.out hb1 (heap_lt HR2.out))
      have a0 := HV1.out.box.c0
      have a1 := HV1.out.box.c1
      have a2 := HV1.out.box.c2
      have a3 := HV1.out.box.c3
      have a4 := HV1.out.box.c4
      clear hb1
      go_wp2_with fail
      go_at_call 13
      refine (refCopy_any N D W A A' n c m c' true fu (by omega) (by omega) w1 HV1.out.one HV1.out.two).mono ?_
      rintro e w2 ⟨v1, v2, rfl, hT, hb2⟩
      obtain ⟨A1, n1, c1, rfl, hs1⟩ := hT.one.sl
      obtain ⟨A2, n2, c2, rfl, hs2⟩ := hT.two.sl
      have HT := Lib.hid hT
      have hn1 : n1 ≤ 65536 := by have h1 := hs1.1; have h2 : n = D.length := HV1.out.one.1; omega
      have hn2 : n2 ≤ 16384 := by have h1 := hs2.1; have h2 : m = W.length := HV1.out.two.1; omega
      have HV2 := Lib.hid (HV1.out.below hb2)
      have HR2b := Lib.hid (below_row HR1.out hb2 (heap_lt HR1.out))
      have HB2 := Lib.hid (HB.out.trans (hb2.mono HB.out.size))
      have HP := Lib.hid (show DV (w2.setRow w.heap.size (devC N (.slice A1 n1 c1) (.slice A2 n2 c2) true fu)) w.heap.size A1 n1 c1 A2 n2 c2 ⟨N, D, W, true, fu⟩ from HV2.out.put (y := ⟨N, D, W, true, fu⟩) hs1 hs2 (by omega) (by omega) f1 f2)
      have HR3 := Lib.hid (((grown_setRow w2 w.heap.size (devC N (.slice A1 n1 c1) (.slice A2 n2 c2) true fu)).block (w.heap.size + 1) (heap_lt HR2b.out) (by simp)).trans HR2b.out)
      have HB3 := Lib.hid (below_setRow HB2.out (Nat.le_refl w.heap.size) (devC N (.slice A1 n1 c1) (.slice A2 n2 c2) true fu))
      have O2 := Lib.hid (HT.out.two.farRow (HV1.out.lt) (devC N (.slice A1 n1 c1) (.slice A2 n2 c2) true fu))
      have HW1 := Lib.hid HV1.out.lt
      have HW1b := Lib.hid (heap_lt HR1.out)
      clear hs1 hs2 hT hb2 a0 a1 a2 a3 a4
      go_wp2_with (first | (refine wpList_store_row rfl 25 (.tmp 6) (.tmp 17) rfl (w.heap.size + 1) #[.int .u32 N, .slice A1 n1 c1, .slice A2 n2 c2, .bool true, .int .i64 fu] rfl rfl 25 zAt HRR.out (by kernel_rfl) rfl (dev_one _ _ _ _ _ _ _ _ _) ?_) | (refine wpList_store_row rfl 25 (.tmp 3) (.tmp 13) rfl w.heap.size #[.int .u32 N, .slice A1 n1 c1, .slice A2 n2 c2, .bool true, .int .i64 fu] rfl rfl 25 _ HV2.out.row (by kernel_rfl) rfl (dev_one _ _ _ _ _ _ _ _ _) ?_; change wpList _ _ _ _ _ (w2.setRow w.heap.size (devC N (.slice A1 n1 c1) (.slice A2 n2 c2) true fu)); generalize w2.setRow w.heap.size (devC N (.slice A1 n1 c1) (.slice A2 n2 c2) true fu) = W3 at *; have b0 := HP.out.box.c0; have b1 := HP.out.box.c1; have b2 := HP.out.box.c2; have b3 := HP.out.box.c3; have b4 := HP.out.box.c4; have HRR := Lib.hid HR3.out))
      have hg2 := setRow_heap' (cs := #[.int .u32 N, .slice A1 n1 c1, .slice A2 n2 c2, .bool true, .int .i64 fu]) HRR.out
      refine bodyPost_ret (v := .tuple #[.agg #[.int .u32 N, .slice A1 n1 c1, .slice A2 n2 c2, .bool true, .int .i64 fu], .int .i64 17]) (results_row2 rfl _ _ (w.heap.size + 1) 25 #[.int .u32 N, .slice A1 n1 c1, .slice A2 n2 c2, .bool true, .int .i64 fu] (0, 0) _ rfl hg2 Tryd.underlying25 rfl (by kernel_rfl) _ rfl) rfl ?_
      exact ⟨_, rfl, HP.out.answer HRR.out _, below_setRow HB3.out (Nat.le_succ _) _⟩
end
section
set_option linter.unusedVariables false
set_option linter.unusedSimpArgs false
open Go.ChangeShapes Go.WideShapes Go.ChangeAt Go.RowKit
open Ar Rg St
open BigFrame
theorem rdW_append (D W : List Bk) (num : Nat) : rdW (D ++ W) num = (rdW W num).or (rdW D num) := by
  unfold rdW
  rw [List.reverse_append, List.find?_append, Option.map_or]
theorem cat_has {D W : List Bk} {num : Nat} (h : UpK key D) : (rdW (D ++ W) num).getD ByteArray.empty = (rdW W num).getD (val D num) := by
  rw [rdW_append]
  cases hw : rdW W num with
  | some s => rfl
  | none =>
    show (rdW D num).getD ByteArray.empty = val D num
    cases hr : rdW D num with
    | none =>
      symm
      refine val_none fun b hb e => ?_
      unfold rdW at hr
      rw [Option.map_eq_none_iff, List.find?_eq_none] at hr
      have := hr b (List.mem_reverse.2 hb)
      simp [e] at this
    | some s =>
      obtain ⟨b, h1, h2, h3⟩ := rdW_some hr
      rw [val_mem h h1 h2, h3]; rfl
set_option maxRecDepth 100000 in
set_option maxHeartbeats 4000000 in
theorem refRead_any (x : De) (num : Nat) (v : Value) (w : World) (hv : DevAt w v x) :
    Calls Tryd.prog 19 #[v, .int .u32 num] w fun e w' => e = .returned (.tuple #[.string (rdX x num), .int .i64 (rdO x num)]) ∧ Below w.heap.size w w' := by
  obtain ⟨A, n, c, A', m, c', rfl, hD, hW, hn, hm, f1, f2⟩ := hv
  obtain ⟨N, D, W, dn, fu⟩ := x
  dsimp only at hD hW f1 f2 ⊢
  have S0 : Below w.heap.size w (w.alloc (.cells (devC N (.slice A n c) (.slice A' m c') dn fu) 25)) := (Below.refl _ _).alloc (Nat.le_refl _) _
  have HV0 := Lib.hid (show DV (w.alloc (.cells (devC N (.slice A n c) (.slice A' m c') dn fu) 25)) w.heap.size A n c A' m c' ⟨N, D, W, dn, fu⟩ from ⟨heap_alloc_new w _, hD.below S0, hW.below S0, hn, hm, f1, f2⟩)
  have HS := Lib.hid S0
  have hD0 := hD.1
  have hW0 := hW.1
  clear hD hW S0
  unfold devV
  cases hr : De.rt ⟨N, D, W, dn, fu⟩
  · have HE := Lib.hid (show rdO ⟨N, D, W, dn, fu⟩ num = 7 by unfold rdO; rw [hr]; rfl)
    have HX := Lib.hid (show rdX ⟨N, D, W, dn, fu⟩ num = ByteArray.empty by unfold rdX; rw [HE.out]; rfl)
    have HCH := Lib.hid (show chO ⟨N, D, W, dn, fu⟩ = 7 by unfold chO; rw [hr]; rfl)
    rw [HE.out, HX.out]
    clear hr hD0 hW0 HE HX
    go_enter Tryd.func19, Tryd.ntmps19
    go_wp2_with fail
    generalize w.alloc _ = W0 at *
    go_at_call 23
    refine (refCheck_any N D W A A' n c m c' dn fu (by omega) (by omega) W0 HV0.out.one HV0.out.two).mono ?_
    rw [HCH.out]
    rintro e w1 ⟨rfl, hb1⟩
    have HB := Lib.hid (HS.out.trans (hb1.mono HS.out.size))
    clear hb1
    go_wp2
    go_ret2
    exact ⟨rfl, HB.out⟩
  · have HCH := Lib.hid (show chO ⟨N, D, W, dn, fu⟩ = 0 from chO_zero.2 hr)
    have hlen := rt_len hr
    dsimp only at hlen
    have hnl : n ≤ 65536 := by omega
    have hml : m ≤ 16384 := by omega
    have HUP := Lib.hid (show UpK key D from (rt_parts hr).2.2.1)
    have HDL := Lib.hid (show D.length ≤ 65536 ∧ W.length ≤ 16384 from hlen)
    clear hlen hD0 hW0
    cases dn
    · by_cases hnum : N ≤ num
      · have g1 : decide (N ≤ num) = true := decide_eq_true hnum
        have HE := Lib.hid (show rdO ⟨N, D, W, false, fu⟩ num = 1 by rw [rdO_up hr rfl]; exact if_pos hnum)
        have HX := Lib.hid (show rdX ⟨N, D, W, false, fu⟩ num = ByteArray.empty by unfold rdX; rw [HE.out]; rfl)
        rw [HE.out, HX.out]
        clear hr HE HX hnum
        go_enter Tryd.func19, Tryd.ntmps19
        go_wp2_with fail
        generalize w.alloc _ = W0 at *
        go_at_call 23
        refine (refCheck_any N D W A A' n c m c' false fu (by omega) (by omega) W0 HV0.out.one HV0.out.two).mono ?_
        rw [HCH.out]
        rintro e w1 ⟨rfl, hb1⟩
        have HB := Lib.hid (HS.out.trans (hb1.mono HS.out.size))
        have HV1 := Lib.hid (HV0.out.below hb1)
        have a0 := HV1.out.box.c0
        have a1 := HV1.out.box.c1
        have a2 := HV1.out.box.c2
        have a3 := HV1.out.box.c3
        have a4 := HV1.out.box.c4
        clear hb1
        go_wp2
        go_ret2
        exact ⟨rfl, HB.out⟩
      · have g1 : decide (N ≤ num) = false := decide_eq_false hnum
        have HE := Lib.hid (show rdO ⟨N, D, W, false, fu⟩ num = 0 by rw [rdO_up hr rfl]; exact if_neg hnum)
        have HX := Lib.hid (show rdX ⟨N, D, W, false, fu⟩ num = (rdW (D ++ W) num).getD ByteArray.empty by rw [rdX_at HE.out, has_val]; exact (cat_has HUP.out).symm)
        rw [HE.out, HX.out]
        clear hr HE HX hnum
        go_enter Tryd.func19, Tryd.ntmps19
        go_wp2_with fail
        generalize w.alloc _ = W0 at *
        go_at_call 23
        refine (refCheck_any N D W A A' n c m c' false fu (by omega) (by omega) W0 HV0.out.one HV0.out.two).mono ?_
        rw [HCH.out]
        rintro e w1 ⟨rfl, hb1⟩
        have HB := Lib.hid (HS.out.trans (hb1.mono HS.out.size))
        have HV1 := Lib.hid (HV0.out.below hb1)
        have a0 := HV1.out.box.c0
        have a1 := HV1.out.box.c1
        have a2 := HV1.out.box.c2
        have a3 := HV1.out.box.c3
        have a4 := HV1.out.box.c4
        clear hb1
        go_wp2_with fail
        have hdr : Below w1.heap.size w1 w1.drew := (Below.refl _ _).drew
        have hal : Below w1.heap.size w1 (w1.alloc (.cells #[] 41)) := (Below.refl _ _).alloc (Nat.le_refl _) _
        have HVd := Lib.hid (HV1.out.below hal)
        have hl1 := HV1.out.lt
        have HM0 := Lib.hid (show MkB w1 ((w1.alloc (.cells #[] 41)).drew) (.slice (some ⟨w1.heap.size, 0, none⟩) 0 0) [] from (mkB_made (Below.refl w1.heap.size w1)).go (Below.refl _ _).drew)
        have S1 : w1.drew.cell? ⟨w.heap.size, 1, none⟩ = some (.slice A n c) ∧ w1.drew.cell? ⟨w.heap.size, 2, none⟩ = some (.slice A' m c') := ⟨a1, a2⟩
        have S2 := Lib.hid (show (w1.alloc (.cells #[] 41)).drew.cell? ⟨w.heap.size, 1, none⟩ = some (.slice A n c) ∧ (w1.alloc (.cells #[] 41)).drew.cell? ⟨w.heap.size, 2, none⟩ = some (.slice A' m c') from ⟨HVd.out.box.c1, HVd.out.box.c2⟩)
        have HLD := Lib.hid (HVd.out.one.below (Below.refl _ _).drew)
        have HLW := Lib.hid HV1.out.two
        refine wp_region_held_drew (S := fun w' => w'.cell? ⟨w.heap.size, 1, none⟩ = some (.slice A n c) ∧ w'.cell? ⟨w.heap.size, 2, none⟩ = some (.slice A' m c')) (by kernel_rfl) S1 (fun hHeld => ?_)
        refine take_at 1 22 (.pointer (some ⟨w.heap.size, 1, none⟩)) rfl (by rfl) (by kernel_rfl) (by kernel_rfl) (by kernel_rfl) (fun _ _ _ h => h) (Or.inl ⟨by rfl, fun w' hSw => by go_simp⟩) (by assumption) ?_
        try simp only [List.setIfInBounds_toArray, List.set_cons_zero, List.set_cons_succ]
        refine take_at 4 25 (.pointer (some ⟨w.heap.size, 2, none⟩)) rfl (by rfl) (by kernel_rfl) (by kernel_rfl) (by kernel_rfl) (fun _ _ _ h => h) (Or.inl ⟨by rfl, fun w' hSw => by go_simp⟩) (by assumption) ?_
        try simp only [List.setIfInBounds_toArray, List.set_cons_zero, List.set_cons_succ]
        refine take_at 2 23 (.slice A n c) rfl (by rfl) (by kernel_rfl) (by kernel_rfl) (by kernel_rfl) (fun _ _ _ h => h) (Or.inl ⟨by rfl, fun w' hSw => by (obtain ⟨s1, s2⟩ := hSw; go_simp)⟩) (by assumption) ?_
        try simp only [List.setIfInBounds_toArray, List.set_cons_zero, List.set_cons_succ]
        refine take_at 5 26 (.slice A' m c') rfl (by rfl) (by kernel_rfl) (by kernel_rfl) (by kernel_rfl) (fun _ _ _ h => h) (Or.inl ⟨by rfl, fun w' hSw => by (obtain ⟨s1, s2⟩ := hSw; go_simp)⟩) (by assumption) ?_
        try simp only [List.setIfInBounds_toArray, List.set_cons_zero, List.set_cons_succ]
        refine take_at 8 29 (.int .i64 0) rfl (by rfl) (by kernel_rfl) (by kernel_rfl) (by kernel_rfl) (fun _ _ _ h => h) (Or.inl ⟨by rfl, fun w' hSw => by go_simp⟩) (by assumption) ?_
        try simp only [List.setIfInBounds_toArray, List.set_cons_zero, List.set_cons_succ]
        refine wpAnyH_ready (rs := [0]) (by kernel_rfl) (by simp) ?_
        refine AllReadyH.cons rfl (fun K hK => ?_) AllReadyH.nil
        go_simp
        refine hK.out _ _ S2.out (fun hHeld => ?_)
        clear hK K
        refine wpAnyH_ready (rs := [3]) (by kernel_rfl) (by simp) ?_
        refine AllReadyH.cons rfl (fun K hK => ?_) AllReadyH.nil
        rw [if_pos (by rfl)]
        obtain ⟨m1, m2, m3, B1, m4, m5⟩ := HLD.out
        refine op_catB HM0.out D A n c m1 m5 (by simp only [List.length_nil]; omega) _ _ rfl rfl rfl ?_
        clear m1 m2 m3 m4 m5
        intro v3 w3 hM3 hG3
        have HM3 := Lib.hid (show MkB w1 w3 v3 D from hM3)
        have HV3 := Lib.hid (HV1.out.below hM3.2)
        clear hM3 hG3
        refine hK.out _ _ ⟨HV3.out.box.c1, HV3.out.box.c2⟩ (fun hHeld => ?_)
        clear hK K
        simp only [Act.put, List.setIfInBounds_toArray, List.set_cons_zero, List.set_cons_succ]
        refine wpAnyH_ready (rs := [6]) (by kernel_rfl) (by simp) ?_
        refine AllReadyH.cons rfl (fun K hK => ?_) AllReadyH.nil
        rw [if_pos (by rfl)]
        obtain ⟨m1, m2, m3, B1, m4, m5⟩ := HV3.out.two
        refine op_catB HM3.out W A' m c' m1 m5 (by have := HDL.out; omega) _ _ rfl rfl rfl ?_
        clear m1 m2 m3 m4 m5
        intro v4 w4 hM4 hG4
        have HV4 := Lib.hid (HV1.out.below hM4.2)
        obtain ⟨A4, n4, c4, rfl, hs4⟩ := SlB.of_mk hM4
        have HS4 := Lib.hid hs4
        have HB4 := Lib.hid (HB.out.trans (hM4.2.mono HB.out.size))
        clear hM4 hG4 hs4
        refine hK.out _ _ ⟨HV4.out.box.c1, HV4.out.box.c2⟩ (fun hHeld => ?_)
        clear hK K
        simp only [Act.put, List.setIfInBounds_toArray, List.set_cons_zero, List.set_cons_succ]
        refine take_at 7 28 (.int .i64 n4) rfl (by rfl) (by kernel_rfl) (by kernel_rfl) (by kernel_rfl) (fun _ _ _ h => h) (Or.inl ⟨by rfl, fun w' hSw => by go_simp⟩) (by assumption) ?_
        try simp only [List.setIfInBounds_toArray, List.set_cons_zero, List.set_cons_succ]
        refine wpAnyH_done (by kernel_rfl) ?_ _
        have hn4 : n4 ≤ 81920 := by have h := HS4.out.1; have := HDL.out; simp only [List.length_append] at h; omega
        clear hHeld S1 a0 a1 a2 a3 a4 hdr hal
        go_wp2_with fail
        go_loopw [6, 29] (fun hv v wr => ∃ (i : Nat) (had : ByteArray), i ≤ n4 ∧ v = .int .i64 i ∧ hv = .string had ∧ Hid (had = (rdW ((D ++ W).take i) num).getD ByteArray.empty) ∧ Hid (Below w4.heap.size w4 wr)) (fun _ v _ => n4 - (intOf v).toNat)
        case atStart => exact ⟨0, _, Nat.zero_le _, by go_num, rfl, rfl, Below.refl _ _⟩
        case round =>
          obtain ⟨i, had, hi, rfl, rfl, hhad, hbel⟩ := hrel
          have HBr := Lib.hid (HB4.out.trans ((Hid.out hbel).mono HB4.out.size))
          by_cases hlt : i < n4
          · obtain ⟨q, hq⟩ : ∃ q, (D ++ W)[i]? = some q := ⟨_, List.getElem?_eq_getElem (by have h := HS4.out.1; omega)⟩
            obtain ⟨-, -, -, BB, hBB, hLL⟩ := HS4.out.below (Hid.out hbel)
            obtain ⟨b, z, hAe, hbb, hr⟩ := hLL i q hq
            have hbs : b < wr.heap.size := Nat.lt_of_lt_of_le hbb hBB
            have hc0 : wr.cell? ⟨b, z + i * 2, none⟩ = some (.int .u32 q.n) := hr 0 _ rfl
            have hc1 : wr.cell? ⟨b, z + i * 2 + 1, none⟩ = some (.string q.d) := hr 1 _ rfl
            subst hAe
            clear hr hLL
            have hd0 : (wr.alloc (.cells #[.int .u32 q.n, .string q.d] 41)).cell? ⟨wr.heap.size, 0, none⟩ = some (.int .u32 q.n) := by simp
            have hd1 : (wr.alloc (.cells #[.int .u32 q.n, .string q.d] 41)).cell? ⟨wr.heap.size, 1, none⟩ = some (.string q.d) := by simp
            have HB9 := Lib.hid (show Below w4.heap.size w4 (wr.alloc (.cells #[.int .u32 q.n, .string q.d] 41)) from (Hid.out hbel).alloc (Hid.out hbel).size _)
            by_cases hqn : q.n = num
            · have hqe : ((q.n : Int) == (num : Int)) = true := by rw [beq_iff_eq]; exact congrArg Int.ofNat hqn
              have HH := Lib.hid (show q.d = (rdW ((D ++ W).take (i + 1)) num).getD ByteArray.empty by rw [take_snocB hq, rdW_snoc, if_pos hqn]; rfl)
              clear hq hqn hhad hbel
              go_wp2
              exact ⟨⟨i + 1, q.d, by omega, by go_num, rfl, HH.out, HB9.out⟩, by simp [intOf] <;> omega⟩
            · have hqe : ((q.n : Int) == (num : Int)) = false := by rw [beq_eq_false_iff_ne]; exact fun e => hqn (Int.ofNat.inj e)
              have HH := Lib.hid (show had = (rdW ((D ++ W).take (i + 1)) num).getD ByteArray.empty by rw [take_snocB hq, rdW_snoc, if_neg hqn]; exact Hid.out hhad)
              clear hq hqn hhad hbel
              go_wp2
              exact ⟨⟨i + 1, had, by omega, by go_num, rfl, HH.out, HB9.out⟩, by simp [intOf] <;> omega⟩
          · have HH := Lib.hid (show had = (rdW (D ++ W) num).getD ByteArray.empty by rw [Hid.out hhad, List.take_of_length_le (by have h := HS4.out.1; omega)])
            clear hhad hbel
            go_wp2
            go_ret2
            exact ⟨by rw [← HH.out]; rfl, HBr.out⟩
    · have HE := Lib.hid (show rdO ⟨N, D, W, true, fu⟩ num = 17 by unfold rdO; rw [hr]; rfl)
      have HX := Lib.hid (show rdX ⟨N, D, W, true, fu⟩ num = ByteArray.empty by unfold rdX; rw [HE.out]; rfl)
      rw [HE.out, HX.out]
      clear hr HE HX
      go_enter Tryd.func19, Tryd.ntmps19
      go_wp2_with fail
      generalize w.alloc _ = W0 at *
      go_at_call 23
      refine (refCheck_any N D W A A' n c m c' true fu (by omega) (by omega) W0 HV0.out.one HV0.out.two).mono ?_
      rw [HCH.out]
      rintro e w1 ⟨rfl, hb1⟩
      have HB := Lib.hid (HS.out.trans (hb1.mono HS.out.size))
      have HV1 := Lib.hid (HV0.out.below hb1)
      have a0 := HV1.out.box.c0
      have a1 := HV1.out.box.c1
      have a2 := HV1.out.box.c2
      have a3 := HV1.out.box.c3
      have a4 := HV1.out.box.c4
      clear hb1
      go_wp2
      go_ret2
      exact ⟨rfl, HB.out⟩
end
end Go.Proofs.YtjkapmghifglcaaDoor.Dv
