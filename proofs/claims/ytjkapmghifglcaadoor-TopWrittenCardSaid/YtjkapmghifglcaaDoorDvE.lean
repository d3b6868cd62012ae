/- Two lists of the call's own (Two); contract of package dev's takenUp. -/
import Derived.Test.YtjkapmghifglcaaDoorDvD
namespace Go.Proofs.YtjkapmghifglcaaDoor.Dv
set_option linter.unusedVariables false
open Go.ChangeShapes Go.WideShapes Go.ChangeAt Go.RowKit
open Ar Rg St
open BigFrame
abbrev devV (N : Nat) (v1 v2 : Value) (dn : Bool) (fu : Int) : Value := .agg #[.int .u32 N, v1, v2, .bool dn, .int .i64 fu]
theorem grown_setCell (w : World) (p : Addr) (u : Value) : w.grownBy (w.setCell p u) (some p.block) :=
  ⟨rfl, rfl, rfl, by simp [World.setCell], fun k hk hne => heap_setCell_other w p k u (fun e => hne (by rw [e]))⟩
/-- a list in memory of the call's own, in blocks from B on -/
def Own (B : Nat) (wr : World) (v : Value) (D : List Bk) : Prop := wr.ownsRow B 41 2 v D.length (D.flatMap enc)
theorem Own.lt {B : Nat} {wr : World} {v : Value} {D : List Bk} (h : Own B wr v D) : ∀ k, v.ownBlock = some k → B ≤ k ∧ k < wr.heap.size := World.ownsRow.lt h
theorem Own.go {B : Nat} {wr w' : World} {v : Value} {D : List Bk} (h : Own B wr v D) (hb : Below wr.heap.size wr w') : Own B w' v D :=
  World.ownsRow.kept h ⟨hb.os, hb.tape, hb.output, hb.size, fun k hk _ => hb.block k hk⟩ (Classical.em _)
theorem Own.down {B B' : Nat} {wr : World} {v : Value} {D : List Bk} (h : Own B wr v D) (hb : B' ≤ B) : Own B' wr v D := World.ownsRow.mono h hb
theorem Own.far {B : Nat} {wr : World} {v : Value} {D : List Bk} (h : Own B wr v D) {p : Addr} (hp : p.block < B) (u : Value) : Own B (wr.setCell p u) v D := by
  refine World.ownsRow.kept h (grown_setCell wr p u) ?_
  cases hv : v.ownBlock with
  | none => exact .inl rfl
  | some k =>
    right
    have := (h.lt k hv).1
    intro e
    cases e
    omega
theorem Own.of_mk {w0 wr : World} {v : Value} {D : List Bk} (h : MkB w0 wr v D) : Own w0.heap.size wr v D := h.1
theorem Own.of_mk' {w0 wr : World} {v : Value} {D : List Bk} {B : Nat} (h : MkB w0 wr v D) (hz : w0.heap.size = B) : Own B wr v D := hz ▸ h.1
theorem Own.nil (B : Nat) (w : World) : Own B w (.slice none 0 0) [] := World.ownsRow_nil _ _ _ _
/-- the call's own two lists, in blocks of their own -/
structure Two (B : Nat) (wr : World) (v1 : Value) (D : List Bk) (v2 : Value) (W : List Bk) : Prop where
  one : Own B wr v1 D
  two : Own B wr v2 W
  apart : ∀ k, v1.ownBlock = some k → v2.ownBlock ≠ some k
theorem Two.go {B : Nat} {wr w' : World} {v1 v2 : Value} {D W : List Bk} (h : Two B wr v1 D v2 W) (hb : Below wr.heap.size wr w') : Two B w' v1 D v2 W := ⟨h.one.go hb, h.two.go hb, h.apart⟩
theorem Two.down {B B' : Nat} {wr : World} {v1 v2 : Value} {D W : List Bk} (h : Two B wr v1 D v2 W) (hb : B' ≤ B) : Two B' wr v1 D v2 W := ⟨h.one.down hb, h.two.down hb, h.apart⟩
theorem Two.far {B : Nat} {wr : World} {v1 v2 : Value} {D W : List Bk} (h : Two B wr v1 D v2 W) {p : Addr} (hp : p.block < B) (u : Value) : Two B (wr.setCell p u) v1 D v2 W := ⟨h.one.far hp u, h.two.far hp u, h.apart⟩
theorem Own.sl {B : Nat} {wr : World} {v : Value} {D : List Bk} (h : Own B wr v D) : ∃ A n c, v = .slice A n c ∧ SlB wr A n c D :=
  have hm : MkB { wr with heap := #[] } wr v D := ⟨World.ownsRow.mono h (Nat.zero_le _), ⟨rfl, rfl, rfl, Nat.zero_le _, fun k hk => absurd hk (Nat.not_lt_zero _)⟩⟩
  SlB.of_mk hm
/-- an append onto nil: nothing that was there turns -/
theorem below_of_nil {wr w' : World} (h : wr.grownBy w' (Value.slice none 0 0).ownBlock) : Below wr.heap.size wr w' :=
  ⟨h.os, h.tape, h.output, h.size, fun k hk => h.block k hk (by simp [Value.ownBlock])⟩
theorem setRow_heap' {w : World} {g : Nat} {cs old : Array Value} {t : TypeId} {f : Nat × Nat} (h : w.heap[g]? = some (.cells old t f)) : (w.setRow g cs).heap[g]? = some (.cells cs t f) := setRow_heap w g old cs t f h
theorem grown_setRow (w : World) (g : Nat) (cs : Array Value) : w.grownBy (w.setRow g cs) (some g) :=
  ⟨rfl, rfl, rfl, by simp [World.setRow], fun k hk hne => by
    simp only [World.setRow, Array.getElem?_modify]
    rw [if_neg (fun e => hne (by rw [e]))]⟩
theorem below_setRow {B : Nat} {w w1 : World} (h : Below B w w1) {g : Nat} (hg : B ≤ g) (cs : Array Value) : Below B w (w1.setRow g cs) :=
  h.trans ⟨rfl, rfl, rfl, by simp [World.setRow], fun k hk => by
    simp only [World.setRow, Array.getElem?_modify]
    rw [if_neg (by omega)]⟩
theorem Own.farRow {B : Nat} {wr : World} {v : Value} {D : List Bk} (h : Own B wr v D) {g : Nat} (hp : g < B) (cs : Array Value) : Own B (wr.setRow g cs) v D := by
  refine World.ownsRow.kept h (grown_setRow wr g cs) ?_
  cases hv : v.ownBlock with
  | none => exact .inl rfl
  | some k =>
    right
    have := (h.lt k hv).1
    intro e
    cases e
    omega
theorem Two.farRow {B : Nat} {wr : World} {v1 v2 : Value} {D W : List Bk} (h : Two B wr v1 D v2 W) {g : Nat} (hp : g < B) (cs : Array Value) : Two B (wr.setRow g cs) v1 D v2 W := ⟨h.one.farRow hp cs, h.two.farRow hp cs, h.apart⟩
/-- a device in a block of the call's own -/
structure Box (w1 : World) (b : Nat) (N : Nat) (v1 v2 : Value) (dn : Bool) (fu : Int) : Prop where
  c0 : w1.cell? ⟨b, 0, none⟩ = some (.int .u32 N)
  c1 : w1.cell? ⟨b, 1, none⟩ = some v1
  c2 : w1.cell? ⟨b, 2, none⟩ = some v2
  c3 : w1.cell? ⟨b, 3, none⟩ = some (.bool dn)
  c4 : w1.cell? ⟨b, 4, none⟩ = some (.int .i64 fu)
  fr : ∀ o, w1.frozen? ⟨b, o, none⟩ = false
theorem Box.below {w1 w2 : World} {B b N : Nat} {v1 v2 : Value} {dn : Bool} {fu : Int} (h : Box w1 b N v1 v2 dn fu) (hb : Below B w1 w2) (hB : b < B) : Box w2 b N v1 v2 dn fu :=
  ⟨(hb.cell (p := ⟨b, 0, none⟩) hB).trans h.c0, (hb.cell (p := ⟨b, 1, none⟩) hB).trans h.c1, (hb.cell (p := ⟨b, 2, none⟩) hB).trans h.c2, (hb.cell (p := ⟨b, 3, none⟩) hB).trans h.c3, (hb.cell (p := ⟨b, 4, none⟩) hB).trans h.c4, fun o => (hb.frozen (p := ⟨b, o, none⟩) hB).trans (h.fr o)⟩
theorem Box.set1 {w1 : World} {b N : Nat} {v1 v2 : Value} {dn : Bool} {fu : Int} (h : Box w1 b N v1 v2 dn fu) (u : Value) : Box (w1.setCell ⟨b, 1, none⟩ u) b N u v2 dn fu :=
  ⟨(World.cell?_setCell_other _ ⟨b, 1, none⟩ ⟨b, 0, none⟩ _ (by simp)).trans h.c0, World.cell?_setCell_same' _ _ _ (by rw [h.c1]; rfl), (World.cell?_setCell_other _ ⟨b, 1, none⟩ ⟨b, 2, none⟩ _ (by simp)).trans h.c2,
    (World.cell?_setCell_other _ ⟨b, 1, none⟩ ⟨b, 3, none⟩ _ (by simp)).trans h.c3, (World.cell?_setCell_other _ ⟨b, 1, none⟩ ⟨b, 4, none⟩ _ (by simp)).trans h.c4, fun o => (World.frozen?_setCell _ _ _ _).trans (h.fr o)⟩
theorem Box.set2 {w1 : World} {b N : Nat} {v1 v2 : Value} {dn : Bool} {fu : Int} (h : Box w1 b N v1 v2 dn fu) (u : Value) : Box (w1.setCell ⟨b, 2, none⟩ u) b N v1 u dn fu :=
  ⟨(World.cell?_setCell_other _ ⟨b, 2, none⟩ ⟨b, 0, none⟩ _ (by simp)).trans h.c0, (World.cell?_setCell_other _ ⟨b, 2, none⟩ ⟨b, 1, none⟩ _ (by simp)).trans h.c1, World.cell?_setCell_same' _ _ _ (by rw [h.c2]; rfl),
    (World.cell?_setCell_other _ ⟨b, 2, none⟩ ⟨b, 3, none⟩ _ (by simp)).trans h.c3, (World.cell?_setCell_other _ ⟨b, 2, none⟩ ⟨b, 4, none⟩ _ (by simp)).trans h.c4, fun o => (World.frozen?_setCell _ _ _ _).trans (h.fr o)⟩
theorem Box.set3 {w1 : World} {b N : Nat} {v1 v2 : Value} {dn : Bool} {fu : Int} (h : Box w1 b N v1 v2 dn fu) (u : Bool) : Box (w1.setCell ⟨b, 3, none⟩ (.bool u)) b N v1 v2 u fu :=
  ⟨(World.cell?_setCell_other _ ⟨b, 3, none⟩ ⟨b, 0, none⟩ _ (by simp)).trans h.c0, (World.cell?_setCell_other _ ⟨b, 3, none⟩ ⟨b, 1, none⟩ _ (by simp)).trans h.c1, (World.cell?_setCell_other _ ⟨b, 3, none⟩ ⟨b, 2, none⟩ _ (by simp)).trans h.c2,
    World.cell?_setCell_same' _ _ _ (by rw [h.c3]; rfl), (World.cell?_setCell_other _ ⟨b, 3, none⟩ ⟨b, 4, none⟩ _ (by simp)).trans h.c4, fun o => (World.frozen?_setCell _ _ _ _).trans (h.fr o)⟩
theorem Box.set4 {w1 : World} {b N : Nat} {v1 v2 : Value} {dn : Bool} {fu : Int} (h : Box w1 b N v1 v2 dn fu) (u : Int) : Box (w1.setCell ⟨b, 4, none⟩ (.int .i64 u)) b N v1 v2 dn u :=
  ⟨(World.cell?_setCell_other _ ⟨b, 4, none⟩ ⟨b, 0, none⟩ _ (by simp)).trans h.c0, (World.cell?_setCell_other _ ⟨b, 4, none⟩ ⟨b, 1, none⟩ _ (by simp)).trans h.c1, (World.cell?_setCell_other _ ⟨b, 4, none⟩ ⟨b, 2, none⟩ _ (by simp)).trans h.c2,
    (World.cell?_setCell_other _ ⟨b, 4, none⟩ ⟨b, 3, none⟩ _ (by simp)).trans h.c3, World.cell?_setCell_same' _ _ _ (by rw [h.c4]; rfl), fun o => (World.frozen?_setCell _ _ _ _).trans (h.fr o)⟩
theorem Box.new (w : World) (N : Nat) (v1 v2 : Value) (dn : Bool) (fu : Int) (t : TypeId) : Box (w.alloc (.cells #[.int .u32 N, v1, v2, .bool dn, .int .i64 fu] t)) w.heap.size N v1 v2 dn fu :=
  ⟨by simp, by simp, by simp, by simp, by simp, fun o => by simp⟩
theorem dev_one (N : Nat) (A1 A2 : Option Addr) (n1 c1 n2 c2 : Nat) (dn : Bool) (fu : Int) : (#[.int .u32 N, .slice A1 n1 c1, .slice A2 n2 c2, .bool dn, .int .i64 fu] : Array Value).all (·.oneCell') = true := by
  simp [Value.oneCell']
abbrev zAt : Array Value := #[.int .u32 0, .slice none 0 0, .slice none 0 0, .bool false, .int .i64 0]
theorem tk1 {w W0 w1 : World} {b N : Nat} {v1 v2 u1 : Value} {dn : Bool} {fu : Int} {D : List Bk} (hb : b = w.heap.size) (BX : Box W0 b N v1 v2 dn fu) (RW0 : W0.heap[b + 1]? = some (.cells zAt 57 (0, 0))) (S0 : Below w.heap.size w W0) (Z0 : W0.heap.size = b + 2)
    (hM1 : MkB W0 w1 u1 D) (hG1 : W0.grownBy w1 (Value.slice none 0 0).ownBlock) :
    Box w1 b N v1 v2 dn fu ∧ Own (b + 2) w1 u1 D ∧ b + 2 ≤ w1.heap.size ∧ Below w.heap.size w w1 ∧ w1.heap[b + 1]? = some (.cells zAt 57 (0, 0)) := by
  have H1 := below_of_nil hG1
  exact ⟨BX.below H1 (by rw [Z0]; omega), Own.of_mk' hM1 Z0, Z0 ▸ H1.size, S0.trans (H1.mono (by rw [Z0, hb]; omega)), (H1.block (b + 1) (by rw [Z0]; omega)).trans RW0⟩
theorem tk2 {w w1 w2 : World} {b N : Nat} {u1 v2 u2 : Value} {dn : Bool} {fu : Int} {D W : List Bk} (hb : b = w.heap.size) (BX2 : Box (w1.setCell ⟨b, 1, none⟩ u1) b N u1 v2 dn fu) (O1 : Own (b + 2) w1 u1 D) (Z1 : b + 2 ≤ w1.heap.size) (S1 : Below w.heap.size w w1) (RW1 : w1.heap[b + 1]? = some (.cells zAt 57 (0, 0)))
    (hM2 : MkB (w1.setCell ⟨b, 1, none⟩ u1) w2 u2 W) (hG2 : (w1.setCell ⟨b, 1, none⟩ u1).grownBy w2 (Value.slice none 0 0).ownBlock) :
    Box w2 b N u1 v2 dn fu ∧ Two (b + 2) w2 u1 D u2 W ∧ Below w.heap.size w w2 ∧ (w2.setCell ⟨b, 2, none⟩ u2).heap[b + 1]? = some (.cells zAt 57 (0, 0)) := by
  have H2 := below_of_nil hG2
  have Y1 : (w1.setCell ⟨b, 1, none⟩ u1).heap.size = w1.heap.size := by simp [World.setCell]
  have O2 := Own.of_mk hM2
  refine ⟨BX2.below H2 (by rw [Y1]; omega), ⟨(O1.far (p := ⟨b, 1, none⟩) (Nat.lt_add_of_pos_right (by decide)) u1).go H2, O2.down (by rw [Y1]; exact Z1), fun k hk hk2 => ?_⟩, ?_, ?_⟩
  · have q1 := (O1.lt k hk).2
    have q2 := (O2.lt k hk2).1
    rw [Y1] at q2
    omega
  · exact (S1.setCell (p := ⟨b, 1, none⟩) (Nat.le_of_eq hb.symm) u1).trans (H2.mono (by rw [Y1]; omega))
  · exact ((heap_setCell_other w2 ⟨b, 2, none⟩ (b + 1) u2 (by simp)).trans (H2.block (b + 1) (by rw [Y1]; omega))).trans ((heap_setCell_other w1 ⟨b, 1, none⟩ (b + 1) u1 (by simp)).trans RW1)
set_option maxRecDepth 100000 in
set_option maxHeartbeats 2000000 in
theorem takenUp_any (N : Nat) (D W : List Bk) (A A' : Option Addr) (n c m c' : Nat) (dn : Bool) (fu : Int) (hn : n ≤ 1099511627776) (hm : m ≤ 1099511627776) (w : World) (hD : SlB w A n c D) (hW : SlB w A' m c' W) :
    Calls Tryd.prog 34 #[devV N (.slice A n c) (.slice A' m c') dn fu] w fun e w' => ∃ v1 v2, e = .returned (devV N v1 v2 dn fu) ∧ Two w.heap.size w' v1 D v2 W ∧ Below w.heap.size w w' := by
  unfold devV
  obtain ⟨hnD, -, -, B, hB, hL⟩ := hD
  obtain ⟨hmW, -, -, B', hB', hL'⟩ := hW
  have HD := Lib.hid (show n = D.length ∧ B ≤ w.heap.size ∧ Ls enc 2 w B A D from ⟨hnD, hB, hL⟩)
  have HW := Lib.hid (show m = W.length ∧ B' ≤ w.heap.size ∧ Ls enc 2 w B' A' W from ⟨hmW, hB', hL'⟩)
  clear hnD hB hL hmW hB' hL'
  go_enter Tryd.func34, Tryd.ntmps34
  have BX := Lib.hid ((Box.new w N (.slice A n c) (.slice A' m c') dn fu 25).below (B := w.heap.size + 1) ((Below.refl _ _).alloc (by simp) (.cells #[.int .u32 0, .slice none 0 0, .slice none 0 0, .bool false, .int .i64 0] 57)) (by omega))
  have HL0 := Lib.hid (show Ls enc 2 ((w.alloc (.cells #[.int .u32 N, .slice A n c, .slice A' m c', .bool dn, .int .i64 fu] 25)).alloc (.cells #[.int .u32 0, .slice none 0 0, .slice none 0 0, .bool false, .int .i64 0] 57)) B A D from HD.out.2.2.below ((((Below.refl _ _).alloc (Nat.le_refl _) _).alloc (by simp) _).mono HD.out.2.1))
  have RW0 := Lib.hid (show ((w.alloc (.cells #[.int .u32 N, .slice A n c, .slice A' m c', .bool dn, .int .i64 fu] 25)).alloc (.cells #[.int .u32 0, .slice none 0 0, .slice none 0 0, .bool false, .int .i64 0] 57)).heap[w.heap.size + 1]? = some (.cells #[.int .u32 0, .slice none 0 0, .slice none 0 0, .bool false, .int .i64 0] 57 (0, 0)) by
    have := heap_alloc_new (w.alloc (.cells #[.int .u32 N, .slice A n c, .slice A' m c', .bool dn, .int .i64 fu] 25)) (.cells #[.int .u32 0, .slice none 0 0, .slice none 0 0, .bool false, .int .i64 0] 57)
    simpa using this)
  have S0 := Lib.hid (show Below w.heap.size w ((w.alloc (.cells #[.int .u32 N, .slice A n c, .slice A' m c', .bool dn, .int .i64 fu] 25)).alloc (.cells #[.int .u32 0, .slice none 0 0, .slice none 0 0, .bool false, .int .i64 0] 57)) from ((Below.refl _ _).alloc (Nat.le_refl _) _).alloc (by simp) _)
  have Z0 := Lib.hid (show ((w.alloc (.cells #[.int .u32 N, .slice A n c, .slice A' m c', .bool dn, .int .i64 fu] 25)).alloc (.cells #[.int .u32 0, .slice none 0 0, .slice none 0 0, .bool false, .int .i64 0] 57)).heap.size = w.heap.size + 2 by simp)
  have HM0 := Lib.hid (show MkB ((w.alloc (.cells #[.int .u32 N, .slice A n c, .slice A' m c', .bool dn, .int .i64 fu] 25)).alloc (.cells #[.int .u32 0, .slice none 0 0, .slice none 0 0, .bool false, .int .i64 0] 57)) ((w.alloc (.cells #[.int .u32 N, .slice A n c, .slice A' m c', .bool dn, .int .i64 fu] 25)).alloc (.cells #[.int .u32 0, .slice none 0 0, .slice none 0 0, .bool false, .int .i64 0] 57)) (.slice none 0 0) [] from Mk.nil (Below.refl _ _))
  go_wp2_with (first
    | (at_builtin
       refine catB HM1.out W A' m c' HW.out.1 HL1.out (by simp only [List.length_nil]; omega) rfl _ _ rfl rfl rfl ?_
       intro u2 w2 hM2 hG2
       obtain ⟨A2, n2, c2, hu2, -⟩ := SlB.of_mk hM2
       subst hu2
       have TK := tk2 (w := w) (D := D) (W := W) rfl BX2.out O1.out Z1.out S1.out RW1.out hM2 hG2
       have BX3 := Lib.hid TK.1
       have TW := Lib.hid TK.2.1
       have S2 := Lib.hid TK.2.2.1
       have RW2 := Lib.hid TK.2.2.2
       have x3 := BX3.out.c2
       have f3 := BX3.out.fr 2
       have y0 := (BX3.out.set2 (.slice A2 n2 c2)).c0
       have y1 := (BX3.out.set2 (.slice A2 n2 c2)).c1
       have y2 := (BX3.out.set2 (.slice A2 n2 c2)).c2
       have y3 := (BX3.out.set2 (.slice A2 n2 c2)).c3
       have y4 := (BX3.out.set2 (.slice A2 n2 c2)).c4
       clear hM2 hG2 TK x1 f1 x2)
    | (at_builtin
       generalize (w.alloc (.cells #[.int .u32 N, .slice A n c, .slice A' m c', .bool dn, .int .i64 fu] 25)).alloc (.cells #[.int .u32 0, .slice none 0 0, .slice none 0 0, .bool false, .int .i64 0] 57) = W0 at *
       refine catB HM0.out D A n c HD.out.1 HL0.out (by simp only [List.length_nil]; omega) rfl _ _ rfl rfl rfl ?_
       intro u1 w1 hM1 hG1
       obtain ⟨A1, n1, c1, hu1, -⟩ := SlB.of_mk hM1
       subst hu1
       have TK := tk1 (w := w) (D := D) rfl BX.out RW0.out S0.out Z0.out hM1 hG1
       have BX2 := Lib.hid (TK.1.set1 (.slice A1 n1 c1))
       have O1 := Lib.hid TK.2.1
       have Z1 := Lib.hid TK.2.2.1
       have S1 := Lib.hid TK.2.2.2.1
       have RW1 := Lib.hid TK.2.2.2.2
       have HL1 := Lib.hid (HW.out.2.2.below ((S1.out.setCell (p := ⟨w.heap.size, 1, none⟩) (Nat.le_refl _) (.slice A1 n1 c1)).mono HW.out.2.1))
       have HM1 := Lib.hid (show MkB (w1.setCell ⟨w.heap.size, 1, none⟩ (.slice A1 n1 c1)) (w1.setCell ⟨w.heap.size, 1, none⟩ (.slice A1 n1 c1)) (.slice none 0 0) [] from Mk.nil (Below.refl _ _))
       have x1 := TK.1.c1
       have f1 := TK.1.fr 1
       have x2 := BX2.out.c2
       clear hM1 hG1 TK)
    | (refine wpList_store_row rfl 57 (.tmp 2) (.tmp 12) rfl (w.heap.size + 1) #[.int .u32 N, .slice A1 n1 c1, .slice A2 n2 c2, .bool dn, .int .i64 fu] rfl rfl 57 zAt RW2.out (by kernel_rfl) rfl (dev_one _ _ _ _ _ _ _ _ _) ?_))
  have hg2 := setRow_heap' (cs := #[.int .u32 N, .slice A1 n1 c1, .slice A2 n2 c2, .bool dn, .int .i64 fu]) RW2.out
  change bodyPost _ _ _ _ ⟨_, []⟩ _
  refine bodyPost_ret (v := .agg #[.int .u32 N, .slice A1 n1 c1, .slice A2 n2 c2, .bool dn, .int .i64 fu]) (results_cell_row rfl _ _ (w.heap.size + 1) 57 #[.int .u32 N, .slice A1 n1 c1, .slice A2 n2 c2, .bool dn, .int .i64 fu] (0, 0) _ rfl hg2 Tryd.underlying57 rfl (by kernel_rfl)) rfl ?_
  exact ⟨_, _, rfl, ((TW.out.far (p := ⟨w.heap.size, 2, none⟩) (Nat.lt_add_of_pos_right (by decide)) _).farRow (by omega) _).down (by omega), below_setRow (S2.out.setCell (p := ⟨w.heap.size, 2, none⟩) (Nat.le_refl _) _) (by omega) _⟩
end Go.Proofs.YtjkapmghifglcaaDoor.Dv
